/- For every input the law AxisLands returns true and leaves its arguments as they were: the given statement Rows.AxisLandsSaid. No condition beyond the given row. -/
import Derived.Test.YtijlccblabadaaaGreatRows
import Derived.Test.YtijlccblabadaaaGreatAxisLandsWalk
import Derived.WalkKit
import Derived.ProofKit
import Derived.OpenShut
import Derived.ShutString
import Derived.ChangeOld
import Derived.Below
namespace Go.Proofs.YtijlccblabadaaaGreat.axisLands
open Go.ChangeShapes Go.WideShapes Go.ChangeAt Go.RowKit
open Go.Proofs.YtijlccblabadaaaGreat
set_option linter.unusedVariables false

theorem own : ownKnob Tryz.prog.godebug = none := by kernel_rfl
theorem laidOut : laidOutB Tryz.prog = true := by kernel_rfl
theorem read3 {H : Type} {enc : TypeId × Value → H} {w : World} {base : Nat} {held : Bool} {fuel : Nat} {cs : List Value} {y : DataW H × List MemPlace} (h : DataW.trod enc Tryz.prog w base (fun _ => true) held fuel 3 cs = some y) :
    ∃ (x0 : Int), cs = [.int .i64 x0] ∧ (Lit.int .i64 x0).wf = true := by
  obtain ⟨x, e, _, hw⟩ := DataW.trod_int Tryz.underlying3 h
  exact ⟨x, e, hw⟩
theorem cells3 : Tryz.prog.cellsOf 3 = 1 := by kernel_rfl
theorem read2 {H : Type} {enc : TypeId × Value → H} {w : World} {base : Nat} {held : Bool} {fuel : Nat} {cs : List Value} {y : DataW H × List MemPlace} (h : DataW.trod enc Tryz.prog w base (fun _ => true) held fuel 2 cs = some y) :
    ∃ (x0 : Int), cs = [.int .i64 x0] ∧ (Lit.int .i64 x0).wf = true := by
  obtain ⟨x, e, _, hw⟩ := DataW.trod_int Tryz.underlying2 h
  exact ⟨x, e, hw⟩
theorem cells2 : Tryz.prog.cellsOf 2 = 1 := by kernel_rfl
theorem cells23 : Tryz.prog.cellsOf 23 = 5 := by kernel_rfl
theorem list5 {α : Type} {l : List α} (h : l.length = 5) : ∃ c0 c1 c2 c3 c4, l = [c0, c1, c2, c3, c4] := by
  match l, h with
  | [c0, c1, c2, c3, c4], _ => exact ⟨c0, c1, c2, c3, c4, rfl⟩
theorem read23 {H : Type} {enc : TypeId × Value → H} {w : World} {base : Nat} {held : Bool} {fuel : Nat} {cs : List Value} {y : DataW H × List MemPlace} (h : DataW.trod enc Tryz.prog w base (fun _ => true) held fuel 23 cs = some y) :
    ∃ (x0 : Int) (x1 : Int) (x2 : Int) (x3 : Int) (x4 : Int), cs = [.int .i64 x0, .int .i64 x1, .int .i64 x2, .int .i64 x3, .int .i64 x4] ∧ (Lit.int .i64 x0).wf = true ∧ (Lit.int .i64 x1).wf = true ∧ (Lit.int .i64 x2).wf = true ∧ (Lit.int .i64 x3).wf = true ∧ (Lit.int .i64 x4).wf = true := by
  obtain ⟨xs, n, _, _, hl, hx, hf⟩ := DataW.trod_struct Tryz.underlying23 h
  rw [cells23] at hl
  obtain ⟨c0, c1, c2, c3, c4, rfl⟩ := list5 hl
  have h0 := hf 0 _ rfl
  obtain ⟨y0, g0⟩ : ∃ y, xs[0]? = some y := ⟨_, List.getElem?_eq_getElem (by rw [hx]; decide)⟩
  rw [g0] at h0
  obtain ⟨x0, e0, w0⟩ := read2 h0
  simp [cells2] at e0
  subst e0
  have h1 := hf 1 _ rfl
  obtain ⟨y1, g1⟩ : ∃ y, xs[1]? = some y := ⟨_, List.getElem?_eq_getElem (by rw [hx]; decide)⟩
  rw [g1] at h1
  obtain ⟨x1, e1, w1⟩ := read2 h1
  simp [cells2] at e1
  subst e1
  have h2 := hf 2 _ rfl
  obtain ⟨y2, g2⟩ : ∃ y, xs[2]? = some y := ⟨_, List.getElem?_eq_getElem (by rw [hx]; decide)⟩
  rw [g2] at h2
  obtain ⟨x2, e2, w2⟩ := read2 h2
  simp [cells2] at e2
  subst e2
  have h3 := hf 3 _ rfl
  obtain ⟨y3, g3⟩ : ∃ y, xs[3]? = some y := ⟨_, List.getElem?_eq_getElem (by rw [hx]; decide)⟩
  rw [g3] at h3
  obtain ⟨x3, e3, w3⟩ := read2 h3
  simp [cells2] at e3
  subst e3
  have h4 := hf 4 _ rfl
  obtain ⟨y4, g4⟩ : ∃ y, xs[4]? = some y := ⟨_, List.getElem?_eq_getElem (by rw [hx]; decide)⟩
  rw [g4] at h4
  obtain ⟨x4, e4, w4⟩ := read2 h4
  simp [cells2] at e4
  subst e4
  exact ⟨x0, x1, x2, x3, x4, rfl, w0, w1, w2, w3, w4⟩
theorem cells25 : Tryz.prog.cellsOf 25 = 2 := by kernel_rfl
theorem list2 {α : Type} {l : List α} (h : l.length = 2) : ∃ c0 c1, l = [c0, c1] := by
  match l, h with
  | [c0, c1], _ => exact ⟨c0, c1, rfl⟩
theorem read25 {H : Type} {enc : TypeId × Value → H} {w : World} {base : Nat} {held : Bool} {fuel : Nat} {cs : List Value} {y : DataW H × List MemPlace} (h : DataW.trod enc Tryz.prog w base (fun _ => true) held fuel 25 cs = some y) :
    ∃ (x0 : Int) (x1 : Int), cs = [.int .i64 x0, .int .i64 x1] ∧ (Lit.int .i64 x0).wf = true ∧ (Lit.int .i64 x1).wf = true := by
  obtain ⟨xs, n, _, _, hl, hx, hf⟩ := DataW.trod_struct Tryz.underlying25 h
  rw [cells25] at hl
  obtain ⟨c0, c1, rfl⟩ := list2 hl
  have h0 := hf 0 _ rfl
  obtain ⟨y0, g0⟩ : ∃ y, xs[0]? = some y := ⟨_, List.getElem?_eq_getElem (by rw [hx]; decide)⟩
  rw [g0] at h0
  obtain ⟨x0, e0, w0⟩ := read2 h0
  simp [cells2] at e0
  subst e0
  have h1 := hf 1 _ rfl
  obtain ⟨y1, g1⟩ : ∃ y, xs[1]? = some y := ⟨_, List.getElem?_eq_getElem (by rw [hx]; decide)⟩
  rw [g1] at h1
  obtain ⟨x1, e1, w1⟩ := read2 h1
  simp [cells2] at e1
  subst e1
  exact ⟨x0, x1, rfl, w0, w1⟩
theorem read26 {H : Type} {enc : TypeId × Value → H} {w : World} {base : Nat} {held : Bool} {fuel : Nat} {cs : List Value} {y : DataW H × List MemPlace} (h : DataW.trod enc Tryz.prog w base (fun _ => true) held fuel 26 cs = some y) :
    ∃ (x0a : Option Addr) (x0l x0c : Nat) (x0z : List Int), cs = [.slice x0a x0l x0c] ∧ IsRow .i64 w x0a x0l x0c x0z := by
  rcases open_ints Tryz.underlying26 Tryz.underlying2 (by kernel_rfl) h with ⟨hcs, _⟩ | ⟨x, l, c, zs, hcs, _, hl, hm, hz, _, hcell, hwz⟩
  · exact ⟨none, 0, 0, [], hcs, .inl ⟨rfl, rfl, rfl, rfl⟩⟩
  · exact ⟨some x, l, c, zs, hcs, .inr ⟨_, rfl, hl, hm, by simpa using hz, hcell, hwz⟩⟩
theorem cells26 : Tryz.prog.cellsOf 26 = 1 := by kernel_rfl
theorem cells28 : Tryz.prog.cellsOf 28 = 1 := by kernel_rfl
theorem list1 {α : Type} {l : List α} (h : l.length = 1) : ∃ c0, l = [c0] := by
  match l, h with
  | [c0], _ => exact ⟨c0, rfl⟩
theorem read28 {H : Type} {enc : TypeId × Value → H} {w : World} {base : Nat} {held : Bool} {fuel : Nat} {cs : List Value} {y : DataW H × List MemPlace} (h : DataW.trod enc Tryz.prog w base (fun _ => true) held fuel 28 cs = some y) :
    ∃ (x0a : Option Addr) (x0l x0c : Nat) (x0z : List Int), cs = [.slice x0a x0l x0c] ∧ IsRow .i64 w x0a x0l x0c x0z := by
  obtain ⟨xs, n, _, _, hl, hx, hf⟩ := DataW.trod_struct Tryz.underlying28 h
  rw [cells28] at hl
  obtain ⟨c0, rfl⟩ := list1 hl
  have h0 := hf 0 _ rfl
  obtain ⟨y0, g0⟩ : ∃ y, xs[0]? = some y := ⟨_, List.getElem?_eq_getElem (by rw [hx]; decide)⟩
  rw [g0] at h0
  obtain ⟨x0a, x0l, x0c, x0z, e0, w0⟩ := read26 h0
  simp [cells26] at e0
  subst e0
  exact ⟨x0a, x0l, x0c, x0z, rfl, w0⟩
theorem cells62 : Tryz.prog.cellsOf 62 = 7 := by kernel_rfl
theorem list7 {α : Type} {l : List α} (h : l.length = 7) : ∃ c0 c1 c2 c3 c4 c5 c6, l = [c0, c1, c2, c3, c4, c5, c6] := by
  match l, h with
  | [c0, c1, c2, c3, c4, c5, c6], _ => exact ⟨c0, c1, c2, c3, c4, c5, c6, rfl⟩
theorem read62 {H : Type} {enc : TypeId × Value → H} {w : World} {base : Nat} {held : Bool} {fuel : Nat} {cs : List Value} {y : DataW H × List MemPlace} (h : DataW.trod enc Tryz.prog w base (fun _ => true) held fuel 62 cs = some y) :
    ∃ (x0 : Int) (x1 : Int) (x2 : Int) (x3 : Int) (x4 : Int) (x5 : Int) (x6 : Int), cs = [.int .i64 x0, .int .i64 x1, .int .i64 x2, .int .i64 x3, .int .i64 x4, .int .i64 x5, .int .i64 x6] ∧ (Lit.int .i64 x0).wf = true ∧ (Lit.int .i64 x1).wf = true ∧ (Lit.int .i64 x2).wf = true ∧ (Lit.int .i64 x3).wf = true ∧ (Lit.int .i64 x4).wf = true ∧ (Lit.int .i64 x5).wf = true ∧ (Lit.int .i64 x6).wf = true := by
  obtain ⟨xs, n, _, _, hl, hx, hf⟩ := DataW.trod_struct Tryz.underlying62 h
  rw [cells62] at hl
  obtain ⟨c0, c1, c2, c3, c4, c5, c6, rfl⟩ := list7 hl
  have h0 := hf 0 _ rfl
  obtain ⟨y0, g0⟩ : ∃ y, xs[0]? = some y := ⟨_, List.getElem?_eq_getElem (by rw [hx]; decide)⟩
  rw [g0] at h0
  obtain ⟨x0, e0, w0⟩ := read3 h0
  simp [cells3] at e0
  subst e0
  have h1 := hf 1 _ rfl
  obtain ⟨y1, g1⟩ : ∃ y, xs[1]? = some y := ⟨_, List.getElem?_eq_getElem (by rw [hx]; decide)⟩
  rw [g1] at h1
  obtain ⟨x1, e1, w1⟩ := read3 h1
  simp [cells3] at e1
  subst e1
  have h2 := hf 2 _ rfl
  obtain ⟨y2, g2⟩ : ∃ y, xs[2]? = some y := ⟨_, List.getElem?_eq_getElem (by rw [hx]; decide)⟩
  rw [g2] at h2
  obtain ⟨x2, e2, w2⟩ := read2 h2
  simp [cells2] at e2
  subst e2
  have h3 := hf 3 _ rfl
  obtain ⟨y3, g3⟩ : ∃ y, xs[3]? = some y := ⟨_, List.getElem?_eq_getElem (by rw [hx]; decide)⟩
  rw [g3] at h3
  obtain ⟨x3, e3, w3⟩ := read2 h3
  simp [cells2] at e3
  subst e3
  have h4 := hf 4 _ rfl
  obtain ⟨y4, g4⟩ : ∃ y, xs[4]? = some y := ⟨_, List.getElem?_eq_getElem (by rw [hx]; decide)⟩
  rw [g4] at h4
  obtain ⟨x4, e4, w4⟩ := read3 h4
  simp [cells3] at e4
  subst e4
  have h5 := hf 5 _ rfl
  obtain ⟨y5, g5⟩ : ∃ y, xs[5]? = some y := ⟨_, List.getElem?_eq_getElem (by rw [hx]; decide)⟩
  rw [g5] at h5
  obtain ⟨x5, e5, w5⟩ := read2 h5
  simp [cells2] at e5
  subst e5
  have h6 := hf 6 _ rfl
  obtain ⟨y6, g6⟩ : ∃ y, xs[6]? = some y := ⟨_, List.getElem?_eq_getElem (by rw [hx]; decide)⟩
  rw [g6] at h6
  obtain ⟨x6, e6, w6⟩ := read2 h6
  simp [cells2] at e6
  subst e6
  exact ⟨x0, x1, x2, x3, x4, x5, x6, rfl, w0, w1, w2, w3, w4, w5, w6⟩
theorem recs29 {H : Type} {enc : TypeId × Value → H} {w : World} {base : Nat} {held : Bool} {fuel : Nat} {cs : List Value} {y : DataW H × List MemPlace} (h : DataW.trod enc Tryz.prog w base (fun _ => true) held fuel 29 cs = some y) :
    ∃ (a : Option Addr) (l c : Nat), cs = [.slice a l c] ∧ IsRecs w 7 a l c := by
  refine recs_of (e := 62) Tryz.underlying29 cells62 (fun h => ?_) h
  obtain ⟨x0, x1, x2, x3, x4, x5, x6, e, w0, w1, w2, w3, w4, w5, w6⟩ := read62 h
  refine ⟨[x0, x1, x2, x3, x4, x5, x6], rfl, ?_, by rw [e]; rfl⟩
  intro q hq
  simp only [List.mem_cons, List.not_mem_nil, or_false] at hq
  rcases hq with rfl | rfl | rfl | rfl | rfl | rfl | rfl
  all_goals assumption
theorem read29 {H : Type} {enc : TypeId × Value → H} {w : World} {base : Nat} {held : Bool} {fuel : Nat} {cs : List Value} {y : DataW H × List MemPlace} (h : DataW.trod enc Tryz.prog w base (fun _ => true) held fuel 29 cs = some y) :
    ∃ (x0a : Option Addr) (x0l x0c : Nat), cs = [.slice x0a x0l x0c] ∧ IsRecs w 7 x0a x0l x0c := by
  exact recs29 h
theorem cells29 : Tryz.prog.cellsOf 29 = 1 := by kernel_rfl
theorem cells31 : Tryz.prog.cellsOf 31 = 2 := by kernel_rfl
theorem read31 {H : Type} {enc : TypeId × Value → H} {w : World} {base : Nat} {held : Bool} {fuel : Nat} {cs : List Value} {y : DataW H × List MemPlace} (h : DataW.trod enc Tryz.prog w base (fun _ => true) held fuel 31 cs = some y) :
    ∃ (x0a : Option Addr) (x0l x0c : Nat) (x1a : Option Addr) (x1l x1c : Nat), cs = [.slice x0a x0l x0c, .slice x1a x1l x1c] ∧ IsRecs w 7 x0a x0l x0c ∧ IsRecs w 7 x1a x1l x1c := by
  obtain ⟨xs, n, _, _, hl, hx, hf⟩ := DataW.trod_struct Tryz.underlying31 h
  rw [cells31] at hl
  obtain ⟨c0, c1, rfl⟩ := list2 hl
  have h0 := hf 0 _ rfl
  obtain ⟨y0, g0⟩ : ∃ y, xs[0]? = some y := ⟨_, List.getElem?_eq_getElem (by rw [hx]; decide)⟩
  rw [g0] at h0
  obtain ⟨x0a, x0l, x0c, e0, w0⟩ := read29 h0
  simp [cells29] at e0
  subst e0
  have h1 := hf 1 _ rfl
  obtain ⟨y1, g1⟩ : ∃ y, xs[1]? = some y := ⟨_, List.getElem?_eq_getElem (by rw [hx]; decide)⟩
  rw [g1] at h1
  obtain ⟨x1a, x1l, x1c, e1, w1⟩ := read29 h1
  simp [cells29] at e1
  subst e1
  exact ⟨x0a, x0l, x0c, x1a, x1l, x1c, rfl, w0, w1⟩
theorem read4 {H : Type} {enc : TypeId × Value → H} {w : World} {base : Nat} {held : Bool} {fuel : Nat} {cs : List Value} {y : DataW H × List MemPlace} (h : DataW.trod enc Tryz.prog w base (fun _ => true) held fuel 4 cs = some y) :
    ∃ (x0 : Bool), cs = [.bool x0] := by
  obtain ⟨x, e, _⟩ := DataW.trod_bool Tryz.underlying4 h
  exact ⟨x, e⟩
theorem cells4 : Tryz.prog.cellsOf 4 = 1 := by kernel_rfl
theorem cells33 : Tryz.prog.cellsOf 33 = 4 := by kernel_rfl
theorem list4 {α : Type} {l : List α} (h : l.length = 4) : ∃ c0 c1 c2 c3, l = [c0, c1, c2, c3] := by
  match l, h with
  | [c0, c1, c2, c3], _ => exact ⟨c0, c1, c2, c3, rfl⟩
theorem read33 {H : Type} {enc : TypeId × Value → H} {w : World} {base : Nat} {held : Bool} {fuel : Nat} {cs : List Value} {y : DataW H × List MemPlace} (h : DataW.trod enc Tryz.prog w base (fun _ => true) held fuel 33 cs = some y) :
    ∃ (x0 : Int) (x1 : Int) (x2 : Int) (x3 : Bool), cs = [.int .i64 x0, .int .i64 x1, .int .i64 x2, .bool x3] ∧ (Lit.int .i64 x0).wf = true ∧ (Lit.int .i64 x1).wf = true ∧ (Lit.int .i64 x2).wf = true := by
  obtain ⟨xs, n, _, _, hl, hx, hf⟩ := DataW.trod_struct Tryz.underlying33 h
  rw [cells33] at hl
  obtain ⟨c0, c1, c2, c3, rfl⟩ := list4 hl
  have h0 := hf 0 _ rfl
  obtain ⟨y0, g0⟩ : ∃ y, xs[0]? = some y := ⟨_, List.getElem?_eq_getElem (by rw [hx]; decide)⟩
  rw [g0] at h0
  obtain ⟨x0, e0, w0⟩ := read3 h0
  simp [cells3] at e0
  subst e0
  have h1 := hf 1 _ rfl
  obtain ⟨y1, g1⟩ : ∃ y, xs[1]? = some y := ⟨_, List.getElem?_eq_getElem (by rw [hx]; decide)⟩
  rw [g1] at h1
  obtain ⟨x1, e1, w1⟩ := read2 h1
  simp [cells2] at e1
  subst e1
  have h2 := hf 2 _ rfl
  obtain ⟨y2, g2⟩ : ∃ y, xs[2]? = some y := ⟨_, List.getElem?_eq_getElem (by rw [hx]; decide)⟩
  rw [g2] at h2
  obtain ⟨x2, e2, w2⟩ := read2 h2
  simp [cells2] at e2
  subst e2
  have h3 := hf 3 _ rfl
  obtain ⟨y3, g3⟩ : ∃ y, xs[3]? = some y := ⟨_, List.getElem?_eq_getElem (by rw [hx]; decide)⟩
  rw [g3] at h3
  obtain ⟨x3, e3⟩ := read4 h3
  simp [cells4] at e3
  subst e3
  exact ⟨x0, x1, x2, x3, rfl, w0, w1, w2⟩
theorem cells35 : Tryz.prog.cellsOf 35 = 26 := by kernel_rfl
theorem list26 {α : Type} {l : List α} (h : l.length = 26) : ∃ c0 c1 c2 c3 c4 c5 c6 c7 c8 c9 c10 c11 c12 c13 c14 c15 c16 c17 c18 c19 c20 c21 c22 c23 c24 c25, l = [c0, c1, c2, c3, c4, c5, c6, c7, c8, c9, c10, c11, c12, c13, c14, c15, c16, c17, c18, c19, c20, c21, c22, c23, c24, c25] := by
  match l, h with
  | [c0, c1, c2, c3, c4, c5, c6, c7, c8, c9, c10, c11, c12, c13, c14, c15, c16, c17, c18, c19, c20, c21, c22, c23, c24, c25], _ => exact ⟨c0, c1, c2, c3, c4, c5, c6, c7, c8, c9, c10, c11, c12, c13, c14, c15, c16, c17, c18, c19, c20, c21, c22, c23, c24, c25, rfl⟩
theorem read35 {H : Type} {enc : TypeId × Value → H} {w : World} {base : Nat} {held : Bool} {fuel : Nat} {cs : List Value} {y : DataW H × List MemPlace} (h : DataW.trod enc Tryz.prog w base (fun _ => true) held fuel 35 cs = some y) :
    ∃ (x0 : Int) (x1 : Int) (x2 : Int) (x3 : Int) (x4 : Int) (x5 : Int) (x6 : Int) (x7 : Int) (x8 : Int) (x9 : Int) (x10 : Int) (x11 : Int) (x12a : Option Addr) (x12l x12c : Nat) (x12z : List Int) (x13 : Int) (x14a : Option Addr) (x14l x14c : Nat) (x15a : Option Addr) (x15l x15c : Nat) (x16 : Bool) (x17 : Int) (x18 : Int) (x19 : Int) (x20 : Bool) (x21 : Int) (x22 : Int) (x23 : Int) (x24 : Int) (x25 : Bool), cs = [.int .i64 x0, .int .i64 x1, .int .i64 x2, .int .i64 x3, .int .i64 x4, .int .i64 x5, .int .i64 x6, .int .i64 x7, .int .i64 x8, .int .i64 x9, .int .i64 x10, .int .i64 x11, .slice x12a x12l x12c, .int .i64 x13, .slice x14a x14l x14c, .slice x15a x15l x15c, .bool x16, .int .i64 x17, .int .i64 x18, .int .i64 x19, .bool x20, .int .i64 x21, .int .i64 x22, .int .i64 x23, .int .i64 x24, .bool x25] ∧ (Lit.int .i64 x0).wf = true ∧ (Lit.int .i64 x1).wf = true ∧ (Lit.int .i64 x2).wf = true ∧ (Lit.int .i64 x3).wf = true ∧ (Lit.int .i64 x4).wf = true ∧ (Lit.int .i64 x5).wf = true ∧ (Lit.int .i64 x6).wf = true ∧ (Lit.int .i64 x7).wf = true ∧ (Lit.int .i64 x8).wf = true ∧ (Lit.int .i64 x9).wf = true ∧ (Lit.int .i64 x10).wf = true ∧ (Lit.int .i64 x11).wf = true ∧ IsRow .i64 w x12a x12l x12c x12z ∧ (Lit.int .i64 x13).wf = true ∧ IsRecs w 7 x14a x14l x14c ∧ IsRecs w 7 x15a x15l x15c ∧ (Lit.int .i64 x17).wf = true ∧ (Lit.int .i64 x18).wf = true ∧ (Lit.int .i64 x19).wf = true ∧ (Lit.int .i64 x21).wf = true ∧ (Lit.int .i64 x22).wf = true ∧ (Lit.int .i64 x23).wf = true ∧ (Lit.int .i64 x24).wf = true := by
  obtain ⟨xs, n, _, _, hl, hx, hf⟩ := DataW.trod_struct Tryz.underlying35 h
  rw [cells35] at hl
  obtain ⟨c0, c1, c2, c3, c4, c5, c6, c7, c8, c9, c10, c11, c12, c13, c14, c15, c16, c17, c18, c19, c20, c21, c22, c23, c24, c25, rfl⟩ := list26 hl
  have h0 := hf 0 _ rfl
  obtain ⟨y0, g0⟩ : ∃ y, xs[0]? = some y := ⟨_, List.getElem?_eq_getElem (by rw [hx]; decide)⟩
  rw [g0] at h0
  obtain ⟨x0, e0, w0⟩ := read3 h0
  simp [cells3] at e0
  subst e0
  have h1 := hf 1 _ rfl
  obtain ⟨y1, g1⟩ : ∃ y, xs[1]? = some y := ⟨_, List.getElem?_eq_getElem (by rw [hx]; decide)⟩
  rw [g1] at h1
  obtain ⟨x1, x2, x3, x4, x5, e1, w1, w2, w3, w4, w5⟩ := read23 h1
  simp [cells23] at e1
  obtain ⟨rfl, rfl, rfl, rfl, rfl⟩ := e1
  have h2 := hf 2 _ rfl
  obtain ⟨y2, g2⟩ : ∃ y, xs[2]? = some y := ⟨_, List.getElem?_eq_getElem (by rw [hx]; decide)⟩
  rw [g2] at h2
  obtain ⟨x6, e2, w6⟩ := read3 h2
  simp [cells3] at e2
  subst e2
  have h3 := hf 3 _ rfl
  obtain ⟨y3, g3⟩ : ∃ y, xs[3]? = some y := ⟨_, List.getElem?_eq_getElem (by rw [hx]; decide)⟩
  rw [g3] at h3
  obtain ⟨x7, e3, w7⟩ := read2 h3
  simp [cells2] at e3
  subst e3
  have h4 := hf 4 _ rfl
  obtain ⟨y4, g4⟩ : ∃ y, xs[4]? = some y := ⟨_, List.getElem?_eq_getElem (by rw [hx]; decide)⟩
  rw [g4] at h4
  obtain ⟨x8, e4, w8⟩ := read2 h4
  simp [cells2] at e4
  subst e4
  have h5 := hf 5 _ rfl
  obtain ⟨y5, g5⟩ : ∃ y, xs[5]? = some y := ⟨_, List.getElem?_eq_getElem (by rw [hx]; decide)⟩
  rw [g5] at h5
  obtain ⟨x9, e5, w9⟩ := read2 h5
  simp [cells2] at e5
  subst e5
  have h6 := hf 6 _ rfl
  obtain ⟨y6, g6⟩ : ∃ y, xs[6]? = some y := ⟨_, List.getElem?_eq_getElem (by rw [hx]; decide)⟩
  rw [g6] at h6
  obtain ⟨x10, x11, e6, w10, w11⟩ := read25 h6
  simp [cells25] at e6
  obtain ⟨rfl, rfl⟩ := e6
  have h7 := hf 7 _ rfl
  obtain ⟨y7, g7⟩ : ∃ y, xs[7]? = some y := ⟨_, List.getElem?_eq_getElem (by rw [hx]; decide)⟩
  rw [g7] at h7
  obtain ⟨x12a, x12l, x12c, x12z, e7, w12⟩ := read28 h7
  simp [cells28] at e7
  subst e7
  have h8 := hf 8 _ rfl
  obtain ⟨y8, g8⟩ : ∃ y, xs[8]? = some y := ⟨_, List.getElem?_eq_getElem (by rw [hx]; decide)⟩
  rw [g8] at h8
  obtain ⟨x13, e8, w13⟩ := read2 h8
  simp [cells2] at e8
  subst e8
  have h9 := hf 9 _ rfl
  obtain ⟨y9, g9⟩ : ∃ y, xs[9]? = some y := ⟨_, List.getElem?_eq_getElem (by rw [hx]; decide)⟩
  rw [g9] at h9
  obtain ⟨x14a, x14l, x14c, x15a, x15l, x15c, e9, w14, w15⟩ := read31 h9
  simp [cells31] at e9
  obtain ⟨rfl, rfl⟩ := e9
  have h10 := hf 10 _ rfl
  obtain ⟨y10, g10⟩ : ∃ y, xs[10]? = some y := ⟨_, List.getElem?_eq_getElem (by rw [hx]; decide)⟩
  rw [g10] at h10
  obtain ⟨x16, e10⟩ := read4 h10
  simp [cells4] at e10
  subst e10
  have h11 := hf 11 _ rfl
  obtain ⟨y11, g11⟩ : ∃ y, xs[11]? = some y := ⟨_, List.getElem?_eq_getElem (by rw [hx]; decide)⟩
  rw [g11] at h11
  obtain ⟨x17, x18, x19, x20, e11, w17, w18, w19⟩ := read33 h11
  simp [cells33] at e11
  obtain ⟨rfl, rfl, rfl, rfl⟩ := e11
  have h12 := hf 12 _ rfl
  obtain ⟨y12, g12⟩ : ∃ y, xs[12]? = some y := ⟨_, List.getElem?_eq_getElem (by rw [hx]; decide)⟩
  rw [g12] at h12
  obtain ⟨x21, e12, w21⟩ := read3 h12
  simp [cells3] at e12
  subst e12
  have h13 := hf 13 _ rfl
  obtain ⟨y13, g13⟩ : ∃ y, xs[13]? = some y := ⟨_, List.getElem?_eq_getElem (by rw [hx]; decide)⟩
  rw [g13] at h13
  obtain ⟨x22, e13, w22⟩ := read2 h13
  simp [cells2] at e13
  subst e13
  have h14 := hf 14 _ rfl
  obtain ⟨y14, g14⟩ : ∃ y, xs[14]? = some y := ⟨_, List.getElem?_eq_getElem (by rw [hx]; decide)⟩
  rw [g14] at h14
  obtain ⟨x23, e14, w23⟩ := read2 h14
  simp [cells2] at e14
  subst e14
  have h15 := hf 15 _ rfl
  obtain ⟨y15, g15⟩ : ∃ y, xs[15]? = some y := ⟨_, List.getElem?_eq_getElem (by rw [hx]; decide)⟩
  rw [g15] at h15
  obtain ⟨x24, e15, w24⟩ := read3 h15
  simp [cells3] at e15
  subst e15
  have h16 := hf 16 _ rfl
  obtain ⟨y16, g16⟩ : ∃ y, xs[16]? = some y := ⟨_, List.getElem?_eq_getElem (by rw [hx]; decide)⟩
  rw [g16] at h16
  obtain ⟨x25, e16⟩ := read4 h16
  simp [cells4] at e16
  subst e16
  exact ⟨x0, x1, x2, x3, x4, x5, x6, x7, x8, x9, x10, x11, x12a, x12l, x12c, x12z, x13, x14a, x14l, x14c, x15a, x15l, x15c, x16, x17, x18, x19, x20, x21, x22, x23, x24, x25, rfl, w0, w1, w2, w3, w4, w5, w6, w7, w8, w9, w10, w11, w12, w13, w14, w15, w17, w18, w19, w21, w22, w23, w24⟩

set_option maxRecDepth 100000 in
theorem lifted (os : Os) (started : os.Started) (H : Type) (enc : TypeId × Value → H) :
    ReturnsInHanded {} Tryz.checked os 7 .any (Rows.axisLandsSpec.pre6 enc Tryz.prog Tryz.f7 Rows.axisLandsRow.domain false) (Rows.axisLandsSpec.post enc Tryz.prog Tryz.f7 false true false false) := by
  refine returnsInHanded_of_change (C := Tryz.checked) own started (by kernel_rfl) Tryz.func7
    (ChangeSpec.witness6 (enc := enc) (C := Tryz.checked) false ⟨#[], #[.agg #[.int .i64 0, .int .i64 0, .int .i64 0, .int .i64 0, .int .i64 0, .int .i64 0, .int .i64 0, .int .i64 0, .int .i64 0, .int .i64 0, .int .i64 0, .int .i64 0, .slice none 0 0, .int .i64 0, .slice none 0 0, .slice none 0 0, .bool false, .int .i64 0, .int .i64 0, .int .i64 0, .bool false, .int .i64 0, .int .i64 0, .int .i64 0, .int .i64 0, .bool false], .int .i64 0, .int .i16 0, .int .i64 0], []⟩ 8 (by kernel_rfl) (by kernel_rfl) (by kernel_rfl) (by kernel_rfl)) ?_
  intro W base args ds gs before hval0 hW hcnd _
  have hval : ∀ (j : Nat) t v, Tryz.f7.params[j]? = some t → args[j]? = some v → Value.okWide Tryz.prog W .any base t v := hval0
  have hW' := hW
  obtain ⟨p, q, hA0, hV, rfl, hfz, hnd⟩ := hW
  have hA : DataW.TrodAll enc Tryz.prog W 0 (fun _ => true) true Tryz.f7.params.toList args.toList ds p := hA0
  rw [Tryz.params7] at hA hval
  obtain ⟨v0, vs0, d0, ds0, p0, q0, hargs, rfl, rfl, h0, r0⟩ := trodAll_cons hA
  obtain ⟨v1, vs1, d1, ds1, p1, q1, rfl, rfl, rfl, h1, r1⟩ := trodAll_cons r0
  obtain ⟨v2, vs2, d2, ds2, p2, q2, rfl, rfl, rfl, h2, r2⟩ := trodAll_cons r1
  obtain ⟨v3, vs3, d3, ds3, p3, q3, rfl, rfl, rfl, h3, r3⟩ := trodAll_cons r2
  obtain ⟨rfl, rfl, rfl⟩ := trodAll_nil r3
  obtain rfl : args = #[v0, v1, v2, v3] := by cases args; simp_all
  obtain ⟨rfl, rfl⟩ := trodVars_none hV
  obtain ⟨cs0, rfl, _⟩ := okWide_struct Tryz.underlying35 (hval 0 35 v0 rfl rfl)
  have k0 := h0
  have lt0 : ∀ x ∈ p0, x.block < W.heap.size := by obtain ⟨m, hm⟩ := k0; exact DataW.trod_lt m _ _ _ hm
  obtain ⟨fuel0, hf0⟩ := h0
  obtain ⟨b0_0, b0_1, b0_2, b0_3, b0_4, b0_5, b0_6, b0_7, b0_8, b0_9, b0_10, b0_11, b0_12a, b0_12l, b0_12c, b0_12z, b0_13, b0_14a, b0_14l, b0_14c, b0_15a, b0_15l, b0_15c, b0_16, b0_17, b0_18, b0_19, b0_20, b0_21, b0_22, b0_23, b0_24, b0_25, e0, u0_0, u0_1, u0_2, u0_3, u0_4, u0_5, u0_6, u0_7, u0_8, u0_9, u0_10, u0_11, u0_12, u0_13, u0_14, u0_15, u0_17, u0_18, u0_19, u0_21, u0_22, u0_23, u0_24⟩ := read35 hf0
  obtain rfl : cs0 = #[.int .i64 b0_0, .int .i64 b0_1, .int .i64 b0_2, .int .i64 b0_3, .int .i64 b0_4, .int .i64 b0_5, .int .i64 b0_6, .int .i64 b0_7, .int .i64 b0_8, .int .i64 b0_9, .int .i64 b0_10, .int .i64 b0_11, .slice b0_12a b0_12l b0_12c, .int .i64 b0_13, .slice b0_14a b0_14l b0_14c, .slice b0_15a b0_15l b0_15c, .bool b0_16, .int .i64 b0_17, .int .i64 b0_18, .int .i64 b0_19, .bool b0_20, .int .i64 b0_21, .int .i64 b0_22, .int .i64 b0_23, .int .i64 b0_24, .bool b0_25] := Array.toList_inj.mp (by simpa [Value.cells] using e0)
  obtain ⟨a1, rfl, rfl, rfl, w1⟩ := open_int Tryz.underlying3 (hval 1 3 v1 rfl rfl) h1
  obtain ⟨a2, rfl, rfl, rfl, w2⟩ := open_int Tryz.underlying60 (hval 2 60 v2 rfl rfl) h2
  obtain ⟨a3, rfl, rfl, rfl, w3⟩ := open_int Tryz.underlying2 (hval 3 2 v3 rfl rfl) h3
  clear hA0 hval0
  refine (walk b0_0 b0_1 b0_2 b0_3 b0_4 b0_5 b0_6 b0_7 b0_8 b0_9 b0_10 b0_11 b0_12a b0_12l b0_12c b0_12z b0_13 b0_14a b0_14l b0_14c b0_15a b0_15l b0_15c b0_16 b0_17 b0_18 b0_19 b0_20 b0_21 b0_22 b0_23 b0_24 b0_25 a1 a2 a3 W u0_0 u0_1 u0_2 u0_3 u0_4 u0_5 u0_6 u0_7 u0_8 u0_9 u0_10 u0_11 u0_12 u0_13 u0_14 u0_15 u0_17 u0_18 u0_19 u0_21 u0_22 u0_23 u0_24 w1 w2 w3).mono fun e W' ⟨he, bel⟩ => ?_
  subst he
  exact ⟨_, rfl, _, _, _, [], _, [], hW', trodAll_mk1 (shut_bool Tryz.underlying4 _), (trodAll_cons_mk (Below.trod laidOut (by kernel_rfl) (of_decide_eq_true (by kernel_rfl)) k0 bel lt0) (trodAll_cons_mk (shut_int Tryz.underlying3 w1) (trodAll_cons_mk (shut_int Tryz.underlying60 w2) (trodAll_cons_mk (shut_int Tryz.underlying2 w3) trodAll_mk0)))), rfl, bel.frame _, fun h => by cases h⟩

theorem over : Rows.axisLandsRow.holds Tryz.pinned (OpenSpec.ofChange Rows.axisLandsSpec) :=
  OpenClaim.holds_of_wide 7 Tryz.f7 rfl rfl rfl rfl rfl rfl rfl ⟨rfl, rfl, rfl, rfl, rfl⟩ rfl rfl rfl rfl rfl (by kernel_rfl) Tryz.func7 (by kernel_rfl)
    (of_decide_eq_true (by kernel_rfl)) (by unfold Func.isWrapper; first | (rw [if_pos (by decide +kernel)]; kernel_rfl) | (rw [if_neg (by decide +kernel)]; exact ⟨rfl, rfl⟩))
    (fun os started H enc _ => lifted os started H enc)

theorem proved : Rows.AxisLandsSaid := over
end Go.Proofs.YtijlccblabadaaaGreat.axisLands
