/- The library's strings.Builder in a writer that the call has made: WriteString, Len, String. Conditions: what each line says. -/
import Derived.Test.YtdefgghhkknnpaaGreatDoorV02
import Derived.Lib.OthersKept
import Derived.Lib.UnsafeStr
import Derived.Lib.AppendStr
import Derived.Lib.Strings
import Derived.Lib.Slices
import Derived.Laws.Externs
import Derived.Shelf.Strconv.Itoa4
import Derived.LaidMore
import Derived.Stop.Joined
import Derived.Lib.LaidTab
import Derived.Lib.ItoaMem
import Derived.Test.YtdefgghhkknnpaaGreatDoorV01
namespace Go.Proofs.YtdefgghhkknnpaaGreatDoor.sh
open Go.ChangeShapes Go.WideShapes Go.ChangeAt Go.RowKit Go.Proofs.YtdefgghhkknnpaaGreatDoor.k Go.Proofs.YtdefgghhkknnpaaGreatDoor.rr Go.Proofs.YtdefgghhkknnpaaGreatDoor.tk Go.Proofs.YtdefgghhkknnpaaGreatDoor.tr
set_option linter.unusedVariables false
set_option linter.unusedSimpArgs false

/-- a writer in the block g, one of the call's own, from B on: it holds a text -/
def Wr (B g : Nat) (l : Str) (w : World) : Prop := Lib.IsBuilder 55 5 B g (Lib.byteCells l) w
/-- what stands behind a call that wrote: all below B, and all that is neither the writer's nor a row of bytes -/
def Fr (B g : Nat) (w w' : World) : Prop := Below B w w' ∧ Lib.OthersKept 5 (some g) w w' ∧ w.heap.size ≤ w'.heap.size
theorem Fr.refl (B g : Nat) (w : World) : Fr B g w w := ⟨Below.refl _ _, Lib.OthersKept.refl _ _ _, Nat.le_refl _⟩
theorem Fr.trans {B g : Nat} {a b c : World} (h : Fr B g a b) (k : Fr B g b c) : Fr B g a c := ⟨h.1.trans k.1, h.2.1.trans k.2.1, Nat.le_trans h.2.2 k.2.2⟩
theorem Fr.alloc {B g : Nat} {a w : World} (h : Fr B g a w) (hB : B ≤ w.heap.size) (o : Obj) : Fr B g a (w.alloc o) := ⟨h.1.alloc hB o, h.2.1.alloc o, Nat.le_trans h.2.2 (by simp)⟩
theorem Fr.of {B g : Nat} {w w' : World} (h : Below w.heap.size w w') (hB : B ≤ w.heap.size) : Fr B g w w' := ⟨h.mono hB, fun i o hi _ _ => by
  have hlt : i < w.heap.size := (Array.getElem?_eq_some_iff.1 hi).1
  rw [h.block i hlt]
  exact hi, h.size⟩
/-- a block of the call's own, whole -/
def Hb (w : World) (b : Nat) (T : TypeId) (vs : List Value) : Prop := w.heap[b]? = some (.cells vs.toArray T (0, 0))
theorem Hb.box {w : World} {b : Nat} {T : TypeId} {vs : List Value} (h : Hb w b T vs) : Box w b 0 vs := Box.at fun i v hv => by
  rw [Nat.zero_add]
  refine ⟨(Lib.cell_of_heap h i).trans (by simpa using hv), ?_⟩
  simp only [World.frozen?]
  unfold Hb at h
  rw [h]
  simp
theorem Hb.fr {B g : Nat} {w w' : World} {b : Nat} {T : TypeId} {vs : List Value} (h : Hb w b T vs) (hf : Fr B g w w') (hb : b ≠ g) (hT : T ≠ 5) : Hb w' b T vs :=
  hf.2.1 b _ h (fun e => hb (Option.some.inj e)) (fun c fz e => by injection e with _ e _; exact hT e)
theorem Hb.lt {w : World} {b : Nat} {T : TypeId} {vs : List Value} (h : Hb w b T vs) : b < w.heap.size := (Array.getElem?_eq_some_iff.1 h).1
theorem Hb.new (w : World) (vs : List Value) (T : TypeId) : Hb (w.alloc (.cells vs.toArray T)) w.heap.size T vs := heap_alloc_new w _
theorem Hb.below {w w' : World} {B b : Nat} {T : TypeId} {vs : List Value} (h : Hb w b T vs) (hb : Below B w w') (hB : b < B) : Hb w' b T vs := by
  unfold Hb
  rw [hb.block b hB]
  exact h
theorem Wr.lt {B g : Nat} {l : Str} {w : World} (h : Wr B g l w) : g < w.heap.size := by
  rcases h with h | h <;> exact h.lt
theorem Wr.le {B g : Nat} {l : Str} {w : World} (h : Wr B g l w) : B ≤ g := by
  rcases h with h | h <;> exact h.1
theorem ownsRow_below {w w' : World} {B size n : Nat} {e : TypeId} {v : Value} {xs : List Value} (h : w.ownsRow B e size v n xs) (hb : Below w.heap.size w w') : w'.ownsRow B e size v n xs := by
  refine ⟨h.1, ?_⟩
  rcases h.2 with h | ⟨g, cap, cur, hv, hbg, hg, r⟩
  · exact .inl h
  · exact .inr ⟨g, cap, cur, hv, hbg, (hb.block g (Array.getElem?_eq_some_iff.1 hg).1).trans hg, r⟩
theorem at_below {T e : TypeId} {B g : Nat} {p : Value} {bs : List Value} {w w' : World} (h : Lib.BuilderAt T e B g p bs w) (hb : Below w.heap.size w w') : Lib.BuilderAt T e B g p bs w' := by
  have hl := h.lt
  obtain ⟨h1, v, h2, h3, h4⟩ := h
  refine ⟨h1, v, ?_, ?_, h4⟩
  · rw [hb.block g hl]
    exact h2
  · exact ownsRow_below h3 hb
theorem Wr.below {B g : Nat} {l : Str} {w w' : World} (h : Wr B g l w) (hb : Below w.heap.size w w') : Wr B g l w' := by
  rcases h with h | h
  · exact .inl (at_below h hb)
  · exact .inr (at_below h hb)
theorem Wr.new (w : World) : Wr w.heap.size w.heap.size [] (w.alloc (.cells #[.pointer none, .slice none 0 0] 55)) := Lib.fresh_isBuilder _ _ w
theorem size_bld : (Tryz.prog.info? 53).map (·.size) = some 2 := by kernel_rfl
theorem size_u8 : (Tryz.prog.info? 5).map (fun i => (i.zero, i.size, i.bytes)) = some (some (.int .u8 0), 1, 1) := by kernel_rfl
set_option maxHeartbeats 1000000 in
set_option maxRecDepth 100000 in
theorem check_used (b : Nat) (w : World) (h0 : w.cell? ⟨b, 0, none⟩ = some (.pointer (some ⟨b, 0, none⟩))) :
    Calls Tryz.prog 96 #[.pointer (some ⟨b, 0, none⟩)] w fun e w' => e = .returned (.tuple #[]) ∧ w' = w := by
  obtain ⟨j, hj, _⟩ := Option.map_eq_some_iff.1 size_bld
  go_enter Tryz.func96, Tryz.ntmps96
  go_wp2
  rw [Lib.run_neq_ptr_same w _ Tryz.underlying50 hj]
  go_wp2
  go_end0
  exact ⟨rfl, rfl⟩
set_option maxHeartbeats 1000000 in
set_option maxRecDepth 100000 in
theorem check_fresh (b : Nat) (w : World) (h0 : w.cell? ⟨b, 0, none⟩ = some (.pointer none)) (hsh : w.shape? b = some (55, 2)) (hfz : w.frozen? ⟨b, 0, none⟩ = false) :
    Calls Tryz.prog 96 #[.pointer (some ⟨b, 0, none⟩)] w fun e w' => e = .returned (.tuple #[]) ∧ w' = w.setCell ⟨b, 0, none⟩ (.pointer (some ⟨b, 0, none⟩)) := by
  obtain ⟨j, hj, hjs⟩ := Option.map_eq_some_iff.1 size_bld
  go_enter Tryz.func96, Tryz.ntmps96
  go_wp2
  rw [Lib.run_to_unsafe w ⟨b, 0, none⟩ Tryz.underlying50 Tryz.underlying166 hj (by rw [hjs]; decide) hsh (Nat.zero_lt_succ 1)]
  simp only [Result.andThen]
  rw [Oper.upon_value]
  go_wp2
  rw [run_callFunc_extern Tryz.func124 (by kernel_rfl) (by kernel_rfl) (by kernel_rfl) (e := Extern.AbiNoEscape.same) (by kernel_rfl)]
  rw [Lib.run_noEscape]
  simp only [Result.andThen]
  rw [Oper.upon_value]
  go_wp2
  rw [Lib.run_from_unsafe w ⟨b, 0, none⟩ Tryz.underlying166 Tryz.underlying50 hj hsh (by kernel_rfl)]
  simp only [Result.andThen]
  rw [Oper.upon_value]
  go_wp2
  go_end0
  exact ⟨rfl, rfl⟩
theorem check_any (B b : Nat) (bs : List Value) (w : World) (h : Lib.IsBuilder 55 5 B b bs w) :
    Calls Tryz.prog 96 #[.pointer (some ⟨b, 0, none⟩)] w fun e w' => e = .returned (.tuple #[]) ∧ Lib.BuilderAt 55 5 B b (.pointer (some ⟨b, 0, none⟩)) bs w' ∧ Fr B b w w' := by
  rcases h with h | h
  · refine (check_fresh b w h.cell0 h.shape h.frozen0).mono ?_
    rintro e w' ⟨rfl, rfl⟩
    exact ⟨rfl, h.used _, (Below.refl B w).setCell (p := ⟨b, 0, none⟩) h.1 _, (Lib.OthersKept.refl _ _ _).setCell ⟨b, 0, none⟩ rfl _, by simp⟩
  · refine (check_used b w h.cell0).mono ?_
    rintro e w' ⟨rfl, rfl⟩
    exact ⟨rfl, h, Fr.refl _ _ _⟩
theorem own_kind {w : World} {B : Nat} {e : TypeId} {v : Value} {n : Nat} {xs : List Value} (h : w.ownsRow B e 1 v n xs) : ∀ g, v.ownBlock = some g → ∃ c fz, w.heap[g]? = some (.cells c e fz) := by
  intro g hg
  rcases h.2 with ⟨rfl, _⟩ | ⟨g', cap, cur, rfl, _, hgg, _⟩
  · simp [Value.ownBlock] at hg
  · simp [Value.ownBlock] at hg
    subst hg
    exact ⟨cur, (0, 0), hgg⟩
set_option maxHeartbeats 2000000 in
set_option maxRecDepth 100000 in
theorem ws_any (B b : Nat) (l : Str) (s : ByteArray) (w : World) (h : Wr B b l w) (hlen : l.length + s.size ≤ 140737488355328) (hBw : B ≤ w.heap.size) :
    Calls Tryz.prog 58 #[.pointer (some ⟨b, 0, none⟩), .string s] w fun e w' => e = .returned (.tuple #[.int .i64 s.size, .nilIface]) ∧ Wr B b (l ++ s.data.toList) w' ∧ Fr B b w w' := by
  obtain ⟨i0, hi, hz0, hz1, hz2⟩ := info_parts size_u8
  go_enter Tryz.func58, Tryz.ntmps58
  go_wp2_with (go_at_call 96; fail)
  refine (check_any B b (Lib.byteCells l) _ h).mono ?_
  rintro e w1 ⟨rfl, h1, hf1⟩
  obtain ⟨hB, v, hbk, hown, hne⟩ := h1
  have c0 : w1.cell? ⟨b, 0, none⟩ = some (.pointer (some ⟨b, 0, none⟩)) := by rw [Lib.cell_of_heap hbk]; rfl
  have c1 : w1.cell? ⟨b, 1, none⟩ = some v := by rw [Lib.cell_of_heap hbk]; rfl
  have hbl : (Lib.byteCells l).length = l.length := Lib.byteCells_length l
  have hs1 := hf1.2.2
  go_wp2_with (at_builtin; refine Lib.wpList_append_own_string _ rfl _ _ 51 9 rfl B 5 i0 Tryz.underlying51 Tryz.underlying9 hi hz0 hz1 hz2 _ _ _ rfl hown s rfl ?c3 ?c4 ?c5 ?_)
  case c3 => unfold maxLen; omega
  case c4 => omega
  case c5 => omega
  intro v' w2 hown' hgrow _
  have hlt : b < w1.heap.size := by
    rcases Nat.lt_or_ge b w1.heap.size with h' | h'
    · exact h'
    · simp [Array.getElem?_eq_none h'] at hbk
  have hb2 : w2.heap[b]? = some (.cells #[.pointer (some ⟨b, 0, none⟩), v] 55 (0, 0)) := by
    rw [hgrow.block b hlt (fun e => hne e.symm)]
    exact hbk
  have d0 : w2.cell? ⟨b, 0, none⟩ = some (.pointer (some ⟨b, 0, none⟩)) := by rw [Lib.cell_of_heap hb2]; rfl
  have d1 : w2.cell? ⟨b, 1, none⟩ = some v := by rw [Lib.cell_of_heap hb2]; rfl
  have f1 : w2.frozen? ⟨b, 1, none⟩ = false := Lib.frozen_of_heap hb2 1
  obtain ⟨ao, n', cap, rfl⟩ : ∃ ao n' cap, v' = .slice ao n' cap := by
    rcases hown'.2 with ⟨hv, _⟩ | ⟨g, cap, cur, hv, _⟩
    · exact ⟨_, _, _, hv⟩
    · exact ⟨_, _, _, hv⟩
  have FB := Lib.hid ((hf1.1.grown hgrow (by omega) (fun k hk => (hown.lt k hk).1)).setCell (p := ⟨b, 1, none⟩) hB (.slice ao n' cap))
  have FK := Lib.hid ((hf1.2.1.grown hgrow (own_kind hown)).setCell ⟨b, 1, none⟩ rfl (.slice ao n' cap))
  have FS := Lib.hid (show w.heap.size ≤ (w2.setCell ⟨b, 1, none⟩ (.slice ao n' cap)).heap.size by have := FB.out.size; have := hgrow.size; simp; omega)
  go_wp2
  go_ret2
  refine ⟨rfl, .inr ?_, FB.out, FK.out, FS.out⟩
  have := Lib.BuilderAt.put (T := 55) (e := 5) hB hb2 (bs' := Lib.byteCells l ++ Lib.strCells s) (by rw [List.length_append, Lib.strCells_length, Lib.byteCells_length]; exact hown') (by decide)
  rw [show Lib.byteCells (l ++ s.data.toList) = Lib.byteCells l ++ Lib.strCells s by rw [Lib.strCells_eq]; simp [Lib.byteCells]]
  exact this
set_option maxHeartbeats 1000000 in
set_option maxRecDepth 100000 in
theorem len_any (B b : Nat) (l : Str) (w : World) (h : Wr B b l w) :
    Calls Tryz.prog 16 #[.pointer (some ⟨b, 0, none⟩)] w fun e w' => e = .returned (.int .i64 l.length) ∧ w' = w := by
  obtain ⟨p, hB, v, hbk, hown, hne⟩ : ∃ p, Lib.BuilderAt 55 5 B b p (Lib.byteCells l) w := by
    rcases h with h | h
    · exact ⟨_, h⟩
    · exact ⟨_, h⟩
  rw [Lib.byteCells_length] at hown
  obtain ⟨ao, cap, rfl⟩ : ∃ ao cap, v = .slice ao l.length cap := by
    rcases hown.2 with ⟨hv, h0⟩ | ⟨g, cap, cur, hv, _⟩
    · exact ⟨none, 0, by rw [hv, h0]⟩
    · exact ⟨_, _, hv⟩
  have c1 : w.cell? ⟨b, 1, none⟩ = some (.slice ao l.length cap) := by rw [Lib.cell_of_heap hbk]; rfl
  clear hB hbk hown hne
  go_enter Tryz.func16, Tryz.ntmps16
  go_wp2
  go_ret
  exact ⟨rfl, rfl⟩
set_option maxHeartbeats 1000000 in
set_option maxRecDepth 100000 in
theorem str_any (B b : Nat) (l : Str) (w : World) (h : Wr B b l w) (h0 : l ≠ []) :
    Calls Tryz.prog 17 #[.pointer (some ⟨b, 0, none⟩)] w fun e w' => e = .returned (.string ⟨l.toArray⟩) ∧ Below B w w' := by
  obtain ⟨p, hB, v, hbk, hown, hne⟩ : ∃ p, Lib.BuilderAt 55 5 B b p (Lib.byteCells l) w := by
    rcases h with h | h
    · exact ⟨_, h⟩
    · exact ⟨_, h⟩
  have hl0 : l.length ≠ 0 := by simpa using h0
  rw [Lib.byteCells_length] at hown
  obtain ⟨g, cap, cur, rfl, hbg, hg, hnc, hcm, hcs, htake⟩ : ∃ g cap cur, v = .slice (some ⟨g, 0, none⟩) l.length cap ∧ B ≤ g ∧ w.heap[g]? = some (.cells cur 5 (0, 0)) ∧ l.length ≤ cap ∧ cap ≤ maxLen ∧ cur.size = cap * 1 ∧ cur.toList.take (l.length * 1) = Lib.byteCells l := by
    rcases hown.2 with ⟨_, hz⟩ | ⟨g, cap, cur, hv, r⟩
    · exact absurd hz hl0
    · exact ⟨g, cap, cur, hv, r⟩
  have c1 : w.drew.cell? ⟨b, 1, none⟩ = some (.slice (some ⟨g, 0, none⟩) l.length cap) := by
    have : w.drew.heap[b]? = some (.cells #[p, .slice (some ⟨g, 0, none⟩) l.length cap] 55 (0, 0)) := hbk
    rw [Lib.cell_of_heap this]; rfl
  have hSD : (Builtin.unsafeSliceData_ #[51] 86 #[.slice (some ⟨g, 0, none⟩) l.length cap]).run Tryz.prog w.drew = .ok (.pointer (some ⟨g, 0, none⟩)) w.drew :=
    Lib.run_unsafeSliceData_row _ _ _ _ _ _ (by omega)
  have hUS : (Builtin.unsafeString_ #[86, 3] 9 #[.pointer (some ⟨g, 0, none⟩), .int .i64 l.length]).run Tryz.prog w.drew = .ok (.string ⟨l.toArray⟩) (w.drew.freeze ⟨g, 0, none⟩ l.length) := by
    refine Lib.run_unsafeString_row w.drew 86 3 9 5 Tryz.underlying86 (by kernel_rfl) g cur.size (by have hg' : w.drew.heap[g]? = some (.cells cur 5 (0, 0)) := hg; simp [World.shape?, hg']) l h0 (by omega) (by unfold maxLen at hcm; omega) ?_
    intro j x hx
    have := hown.cells (g := g) rfl j (.int .u8 x.toNat) (by simp [Lib.byteCells, hx])
    exact this
  have FB := Lib.hid (Lib.below_freeze (Below.drew (Below.refl B w)) (p := ⟨g, 0, none⟩) hbg l.length)
  clear hB hbk hown hne hl0 h0 hbg hg hnc hcm hcs htake
  go_enter Tryz.func17, Tryz.ntmps17
  go_wp2
  go_region
  all_goals (go_wp2; go_ret; exact ⟨rfl, FB.out⟩)
end Go.Proofs.YtdefgghhkknnpaaGreatDoor.sh

/- The library's own contract of strconv.FormatInt at base 10, laid at this program. Its condition: the table of powers of ten lies as the library lays it. -/
namespace Go.Proofs.YtdefgghhkknnpaaGreatDoor
open Go.ChangeShapes Go.WideShapes Go.ChangeAt Go.RowKit
set_option linter.unusedVariables false
set_option linter.unusedSimpArgs false

/-- the table of powers of ten lies as the library lays it -/
def Laid (W : World) : Prop := Lib.TabIs Tryz.prog W "internal/strconv.uint64pow10" .u64 Lib.pow10Tab
theorem gPow : Tryz.prog.globalNamed "internal/strconv.uint64pow10" = some 0 := by kernel_rfl
theorem tPow : (Tryz.prog.globals[0]?).map (·.type) = some 193 := by kernel_rfl
theorem dPow : (Rows.laid_internal_strconv_uint64pow10 : DataW Unit) = Lib.tabData .u64 Lib.pow10Tab := by kernel_rfl
theorem Laid.below {w w' : World} (h : Laid w) (hb : Below w.heap.size w w') : Laid w' := by
  unfold Laid Lib.TabIs World.var? at *
  rw [gPow] at h ⊢
  simp only [Option.bind_some] at h ⊢
  have hlt : 0 < w.heap.size := by
    rcases Nat.lt_or_ge 0 w.heap.size with h' | h'
    · exact h'
    · rw [Array.getElem?_eq_none h'] at h; simp at h
  rw [hb.block _ hlt]
  exact h
end Go.Proofs.YtdefgghhkknnpaaGreatDoor
namespace Go.Proofs.YtdefgghhkknnpaaGreatDoor.sh
open Go.Shelf Go.RowKit Go.Lib Go.Proofs.YtdefgghhkknnpaaGreatDoor
def renD : Go.Shelf.Ren := ⟨fun | 129 => 165 | 173 => 97 | 246 => 125 | 283 => 148 | 284 => 149 | 285 => 150 | 286 => 151 | 317 => 164 | 318 => 166 | 319 => 167 | 320 => 168 | 337 => 180 | 338 => 181 | n => n, fun | 0 => 0 | 2 => 2 | 3 => 3 | 4 => 4 | 5 => 5 | 9 => 9 | 20 => 20 | 37 => 51 | 46 => 197 | 51 => 194 | 53 => 88 | 171 => 180 | 173 => 183 | 212 => 193 | 213 => 195 | 232 => 211 | 233 => 212 | n => n, fun | 17 => 0 | 18 => 2 | 19 => 3 | n => n⟩
theorem laysD0 : Go.Proofs.Lays.n173 Tryz.prog renD := {
  mixed := by kernel_rfl
  f129 := Tryz.func165.trans (congrArg some (by kernel_rfl))
  f173 := Tryz.func97.trans (congrArg some (by kernel_rfl))
  f246 := Tryz.func125.trans (congrArg some (by kernel_rfl))
  f283 := Tryz.func148.trans (congrArg some (by kernel_rfl))
  f284 := Tryz.func149.trans (congrArg some (by kernel_rfl))
  f285 := Tryz.func150.trans (congrArg some (by kernel_rfl))
  f286 := Tryz.func151.trans (congrArg some (by kernel_rfl))
  f317 := Tryz.func164.trans (congrArg some (by kernel_rfl))
  f318 := Tryz.func166.trans (congrArg some (by kernel_rfl))
  f319 := Tryz.func167.trans (congrArg some (by kernel_rfl))
  f320 := Tryz.func168.trans (congrArg some (by kernel_rfl))
  f337 := Tryz.func180.trans (congrArg some (by kernel_rfl))
  f338 := Tryz.func181.trans (congrArg some (by kernel_rfl))
  t0 := Tryz.underlying0
  a0 := Tryz.isAgg0
  z0 := Tryz.sizeOf0
  v0 := Tryz.zeroValue0
  t2 := Tryz.underlying2
  a2 := Tryz.isAgg2
  z2 := Tryz.sizeOf2
  v2 := Tryz.zeroValue2
  t3 := Tryz.underlying3
  a3 := Tryz.isAgg3
  z3 := Tryz.sizeOf3
  v3 := Tryz.zeroValue3
  t4 := Tryz.underlying4
  a4 := Tryz.isAgg4
  z4 := Tryz.sizeOf4
  v4 := Tryz.zeroValue4
  t5 := Tryz.underlying5
  a5 := Tryz.isAgg5
  z5 := Tryz.sizeOf5
  v5 := Tryz.zeroValue5
  t9 := Tryz.underlying9
  a9 := Tryz.isAgg9
  z9 := Tryz.sizeOf9
  v9 := Tryz.zeroValue9
  t20 := Tryz.underlying20
  a20 := Tryz.isAgg20
  z20 := Tryz.sizeOf20
  v20 := Tryz.zeroValue20
  t37 := Tryz.underlying51
  a37 := Tryz.isAgg51
  z37 := Tryz.sizeOf51
  v37 := Tryz.zeroValue51
  t46 := Tryz.underlying197
  a46 := Tryz.isAgg197
  z46 := Tryz.sizeOf197
  v46 := Tryz.zeroValue197
  t51 := Tryz.underlying194
  a51 := Tryz.isAgg194
  z51 := Tryz.sizeOf194
  v51 := Tryz.zeroValue194
  t53 := Tryz.underlying88
  a53 := Tryz.isAgg88
  z53 := Tryz.sizeOf88
  v53 := Tryz.zeroValue88
  t171 := Tryz.underlying180
  a171 := Tryz.isAgg180
  z171 := Tryz.sizeOf180
  v171 := Tryz.zeroValue180
  t173 := Tryz.underlying183
  a173 := Tryz.isAgg183
  z173 := Tryz.sizeOf183
  v173 := Tryz.zeroValue183
  t212 := Tryz.underlying193
  a212 := Tryz.isAgg193
  z212 := Tryz.sizeOf193
  v212 := Tryz.zeroValue193
  t213 := Tryz.underlying195
  a213 := Tryz.isAgg195
  z213 := Tryz.sizeOf195
  t232 := Tryz.underlying211
  a232 := Tryz.isAgg211
  z232 := Tryz.sizeOf211
  v232 := Tryz.zeroValue211
  t233 := Tryz.underlying212
  a233 := Tryz.isAgg212
  z233 := Tryz.sizeOf212
  v233 := Tryz.zeroValue212
  g17 := by kernel_rfl
  g18 := by kernel_rfl
  g19 := by kernel_rfl }
theorem laysD : Go.Proofs.LaysM.n173 Tryz.prog renD := { laysD0 with
  i0 := by kernel_rfl
  i2 := by kernel_rfl
  i3 := by kernel_rfl
  i4 := by kernel_rfl
  i5 := by kernel_rfl
  i9 := by kernel_rfl
  i20 := by kernel_rfl
  i37 := by kernel_rfl
  i46 := by kernel_rfl
  i51 := by kernel_rfl
  i53 := by kernel_rfl
  i171 := by kernel_rfl
  i173 := by kernel_rfl
  i212 := by kernel_rfl
  i232 := by kernel_rfl
  i233 := by kernel_rfl
  m17 := by kernel_rfl
  m18 := by kernel_rfl
  m19 := by kernel_rfl }
end Go.Proofs.YtdefgghhkknnpaaGreatDoor.sh
namespace Go.Proofs.YtdefgghhkknnpaaGreatDoor.sh
open Go.ChangeShapes Go.WideShapes Go.ChangeAt Go.RowKit Go.Proofs.YtdefgghhkknnpaaGreatDoor Go.Proofs.YtdefgghhkknnpaaGreatDoor.k Go.Proofs.YtdefgghhkknnpaaGreatDoor.rr Go.Proofs.YtdefgghhkknnpaaGreatDoor.tk Go.Proofs.YtdefgghhkknnpaaGreatDoor.tr
set_option linter.unusedVariables false
set_option linter.unusedSimpArgs false

theorem below_grow {w : World} {os : Array Obj} (k : Nat) : Below w.heap.size w (Go.Sort.grow (w.drewN k) os) := by
  refine (below_drawn (Below.refl _ _) k).trans ⟨rfl, rfl, rfl, ?_, fun i hi => ?_⟩
  · simp [Go.Sort.grow]
  · simp only [Go.Sort.grow]
    rw [Array.getElem?_append_left]
    simpa using hi
def InI (n : Int) : Prop := -9223372036854775808 ≤ n ∧ n ≤ 9223372036854775807
theorem format_any (n : Int) (hn : InI n) (w : World) (hL : Laid w) : Calls Tryz.prog 97 #[.int .i64 n, .int .i64 10] w fun e w' => e = .returned (sv (numS n)) ∧ Below w.heap.size w w' := by
  refine (Go.Proofs.Any.strconv_FormatInt_10 laysD n hn.1 hn.2 w hL).mono ?_
  rintro e w' ⟨rfl, k, os, rfl⟩
  exact ⟨rfl, below_grow k⟩
set_option maxRecDepth 100000 in
set_option maxHeartbeats 4000000 in
theorem decimal_any (n : Int) (hn : InI n) (w : World) (hL : Laid w) : Calls Tryz.prog 60 #[.int .i64 n] w fun e w' => e = .returned (sv (numS n)) ∧ Below w.heap.size w w' := by
  have FA := Lib.hid (format_any n hn w hL)
  clear hn hL
  go_enter Tryz.func60, Tryz.ntmps60
  go_wp2_with (go_at_call 97; fail)
  refine FA.out.mono ?_
  rintro e w1 ⟨rfl, hb⟩
  have B1 := Lib.hid hb
  clear hb FA
  unfold sv
  go_wp2_with fail
  go_ret
  exact ⟨rfl, B1.out⟩
set_option maxRecDepth 100000 in
set_option maxHeartbeats 4000000 in
theorem truth_any (n : Int) (w : World) : Calls Tryz.prog 61 #[.int .i64 n] w fun e w' => e = .returned (sv (truthS n)) ∧ w' = w := by
  by_cases e0 : n = 0
  · subst e0
    go_enter Tryz.func61, Tryz.ntmps61
    go_wp2
    go_ret
    exact ⟨rfl, rfl⟩
  rw [truthS, if_neg e0]
  have z0 := neb e0
  clear e0
  go_enter Tryz.func61, Tryz.ntmps61
  go_wp2
  go_ret
  exact ⟨rfl, rfl⟩
end Go.Proofs.YtdefgghhkknnpaaGreatDoor.sh

/- The landed writer's put: texts one behind the other. Conditions: the writer is one of the call's own; what it holds stays within 2^47 bytes. -/
namespace Go.Proofs.YtdefgghhkknnpaaGreatDoor.sh
open Go.ChangeShapes Go.WideShapes Go.ChangeAt Go.RowKit Go.Proofs.YtdefgghhkknnpaaGreatDoor Go.Proofs.YtdefgghhkknnpaaGreatDoor.k Go.Proofs.YtdefgghhkknnpaaGreatDoor.rr Go.Proofs.YtdefgghhkknnpaaGreatDoor.tk Go.Proofs.YtdefgghhkknnpaaGreatDoor.tr
set_option linter.unusedVariables false
set_option linter.unusedSimpArgs false

abbrev lim : Nat := 140737488355328
/-- what a call of a writer leaves: it holds so much more -/
def Wrote (B g : Nat) (l t : Str) (w : World) (e : Ending) (w' : World) : Prop := e = .returned (.tuple #[]) ∧ Wr B g (l ++ t) w' ∧ Fr B g w w'
theorem flat_take {L : List Str} {q : Nat} {x : Str} (h : L[q]? = some x) : (L.take (q + 1)).flatten = (L.take q).flatten ++ x := by
  rw [List.take_add_one, h, List.flatten_append]
  simp
theorem flat_le {L : List Str} {q : Nat} {x : Str} (h : L[q]? = some x) : (L.take q).flatten.length + x.length ≤ L.flatten.length := by
  have h1 : (L.take (q + 1)).flatten.length ≤ L.flatten.length := by
    conv => rhs; rw [← List.take_append_drop (q + 1) L, List.flatten_append, List.length_append]
    omega
  rw [flat_take h, List.length_append] at h1
  exact h1
set_option maxRecDepth 100000 in
set_option maxHeartbeats 4000000 in
theorem put_any {B g k : Nat} {l : Str} {L : List Str} {w : World} (hW : Wr B g l w) (hB : B ≤ w.heap.size) (hR : Hb w k 9 (L.map sv)) (hk : k ≠ g) (hm : L.length ≤ 9) (hlen : l.length + L.flatten.length ≤ lim) :
    Calls Tryz.prog 35 #[.pointer (some ⟨g, 0, none⟩), .slice (some ⟨k, 0, none⟩) L.length L.length] w (Wrote B g l L.flatten w) := by
  obtain ⟨n, hn⟩ : ∃ n, L.length = n := ⟨_, rfl⟩
  rw [hn]
  have HW := Lib.hid hW
  have HB := Lib.hid hB
  have HR := Lib.hid hR
  have HK := Lib.hid hk
  have HL := Lib.hid hlen
  have HN := Lib.hid (And.intro hn hm)
  clear hW hB hR hk hlen hn hm
  go_enter Tryz.func35, Tryz.ntmps35
  go_upto_region 1 with (fail)
  go_loopw [8] (fun s8 wr => ∃ q : Nat, q ≤ n ∧ s8 = .int .i64 q ∧ Wr B g (l ++ (L.take q).flatten) wr ∧ Fr B g w wr) (fun i _ => n - (intOf i).toNat)
  case atStart => exact ⟨0, Nat.zero_le _, rfl, by rw [List.take_zero]; simpa using HW.out, Fr.refl _ _ _⟩
  case round =>
    obtain ⟨q, hq, rfl, hwr, hfr⟩ := hrel
    have hn9 : n ≤ 9 := by have := HN.out; omega
    by_cases hlt : q < n
    · obtain ⟨x, hx⟩ : ∃ x, L[q]? = some x := ⟨_, List.getElem?_eq_getElem (by rw [HN.out.1]; exact hlt)⟩
      have a0 := (cell_of (HR.out.fr hfr HK.out (by decide)).box (i := q) (v := sv x) (by rw [List.getElem?_map, hx]; rfl)).1
      have w1 := nat_step q (by omega)
      have WS := Lib.hid (ws_any B g (l ++ (L.take q).flatten) ⟨x.toArray⟩ wr hwr (by
        have h1 := flat_le hx
        have h2 := HL.out
        rw [List.length_append]
        show _ + x.length ≤ _
        unfold lim at h2
        omega) (Nat.le_trans HB.out hfr.2.2))
      rw [sv_list, List.append_assoc, ← flat_take hx] at WS
      have HF := Lib.hid hfr
      unfold sv at a0
      clear hwr hfr hx
      generalize (⟨x.toArray⟩ : ByteArray) = xs at *
      go_wp2_with (go_at_call 58; fail)
      refine WS.out.mono ?_
      rintro e w5 ⟨rfl, hwr, hfr⟩
      have W5 := Lib.hid hwr
      have F5 := Lib.hid (HF.out.trans hfr)
      clear hwr hfr a0 WS HF
      go_wp2_with fail
      go_roundw
      case rel => exact ⟨q + 1, by omega, by go_num, W5.out, F5.out⟩
      case measure => simp [intOf]; omega
    · obtain rfl : q = n := by omega
      have hz : ¬ (q : Int) < q := by omega
      have W5 := Lib.hid hwr
      have F5 := Lib.hid hfr
      clear hwr hfr
      go_wp2_with fail
      go_end0
      refine ⟨rfl, ?_, F5.out⟩
      have := W5.out
      rw [← HN.out.1, List.take_length] at this
      exact this
end Go.Proofs.YtdefgghhkknnpaaGreatDoor.sh

/- How many parts a program has. No condition. -/
namespace Go.Proofs.YtdefgghhkknnpaaGreatDoor.sh
open Go.ChangeShapes Go.WideShapes Go.ChangeAt Go.RowKit Go.Proofs.YtdefgghhkknnpaaGreatDoor.k Go.Proofs.YtdefgghhkknnpaaGreatDoor.rr Go.Proofs.YtdefgghhkknnpaaGreatDoor.tk Go.Proofs.YtdefgghhkknnpaaGreatDoor.tr
set_option linter.unusedVariables false
set_option linter.unusedSimpArgs false

mutual
def wE : Ex → Nat
  | .mk _ _ _ _ sub _ => wsE sub + 1
def wsE : List Ex → Nat
  | [] => 0
  | x :: l => wE x + wsE l
end
def wL : List (List Int) → Nat
  | [] => 0
  | x :: l => x.length + 1 + wL l
mutual
def wS : St → Nat
  | .mk _ _ dst val conds labels fields blocks _ => 1 + (wE dst + wE val) + wsE conds + wL labels + fields.length + wsB blocks
def wsS : List St → Nat
  | [] => 0
  | x :: l => wS x + wsS l
def wsB : List (List St) → Nat
  | [] => 0
  | x :: l => wsS x + 1 + wsB l
end
theorem wE_pos : ∀ x, 1 ≤ wE x
  | .mk _ _ _ _ _ _ => by rw [wE]; omega
theorem wsE_len : ∀ L : List Ex, L.length ≤ wsE L
  | [] => Nat.le_refl _
  | x :: l => by
    have := wsE_len l
    have := wE_pos x
    rw [wsE, List.length_cons]
    omega
theorem wL_len : ∀ L : List (List Int), L.length ≤ wL L
  | [] => Nat.le_refl _
  | x :: l => by
    have := wL_len l
    rw [wL, List.length_cons]
    omega
theorem wsB_len : ∀ L : List (List St), L.length ≤ wsB L
  | [] => Nat.le_refl _
  | x :: l => by
    have := wsB_len l
    rw [wsB, List.length_cons]
    omega
theorem wsE_mem {x : Ex} : ∀ {L : List Ex}, x ∈ L → wE x ≤ wsE L
  | _, .head l => by rw [wsE]; omega
  | _, .tail y h => by have := wsE_mem h; rw [wsE]; omega
theorem wsS_mem {x : St} : ∀ {L : List St}, x ∈ L → wS x ≤ wsS L
  | _, .head l => by rw [wsS]; omega
  | _, .tail y h => by have := wsS_mem h; rw [wsS]; omega
theorem wsB_mem {x : List St} : ∀ {L : List (List St)}, x ∈ L → wsS x ≤ wsB L
  | _, .head l => by rw [wsB]; omega
  | _, .tail y h => by have := wsB_mem h; rw [wsB]; omega
end Go.Proofs.YtdefgghhkknnpaaGreatDoor.sh
