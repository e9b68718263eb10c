/- The landed std's shapes, names and kinds: what they give for any kind and any name. No condition. -/
import Derived.Test.YtkfmblebobjgbaaDoorStNamed
namespace Go.Proofs.YtkfmblebobjgbaaDoor.sd
open Go.ChangeShapes Go.WideShapes Go.ChangeAt Go.RowKit Go.Proofs.YtkfmblebobjgbaaDoor.k Go.Proofs.YtkfmblebobjgbaaDoor.rr
set_option linter.unusedVariables false

/-- a kind's name, its inputs' names, its outputs' names, how many inner cells it has -/
structure Sh where
  name : ByteArray
  ins : ByteArray
  outs : ByteArray
  inner : Int
def shA : List (Int × Sh) := [
    (10, ⟨⟨#[84, 79, 78]⟩, ⟨#[73, 78, 32, 80, 84]⟩, ⟨#[81, 32, 69, 84]⟩, 0⟩),
    (11, ⟨⟨#[84, 79, 70]⟩, ⟨#[73, 78, 32, 80, 84]⟩, ⟨#[81, 32, 69, 84]⟩, 0⟩),
    (12, ⟨⟨#[84, 80]⟩, ⟨#[73, 78, 32, 80, 84]⟩, ⟨#[81, 32, 69, 84]⟩, 2⟩),
    (13, ⟨⟨#[67, 84, 85]⟩, ⟨#[67, 85, 32, 82, 32, 80, 86]⟩, ⟨#[81, 32, 67, 86]⟩, 1⟩),
    (14, ⟨⟨#[67, 84, 68]⟩, ⟨#[67, 68, 32, 76, 68, 32, 80, 86]⟩, ⟨#[81, 32, 67, 86]⟩, 1⟩),
    (15, ⟨⟨#[82, 95, 84, 82, 73, 71]⟩, ⟨#[67, 76, 75]⟩, ⟨#[81]⟩, 1⟩),
    (16, ⟨⟨#[70, 95, 84, 82, 73, 71]⟩, ⟨#[67, 76, 75]⟩, ⟨#[81]⟩, 1⟩),
    (17, ⟨⟨#[83, 82]⟩, ⟨#[83, 49, 32, 82]⟩, ⟨#[81, 49]⟩, 0⟩),
    (18, ⟨⟨#[82, 83]⟩, ⟨#[83, 32, 82, 49]⟩, ⟨#[81, 49]⟩, 0⟩)]
def shM : List (Int × Sh) := [
    (20, ⟨⟨#[77, 67, 95, 80, 111, 119, 101, 114]⟩, ⟨#[65, 120, 105, 115, 32, 69, 110, 97, 98, 108, 101]⟩, ⟨#[83, 116, 97, 116, 117, 115, 32, 69, 114, 114, 111, 114]⟩, 0⟩),
    (21, ⟨⟨#[77, 67, 95, 72, 111, 109, 101]⟩, ⟨#[65, 120, 105, 115, 32, 69, 120, 101, 99, 117, 116, 101]⟩, ⟨#[68, 111, 110, 101, 32, 66, 117, 115, 121, 32, 65, 99, 116, 105, 118, 101, 32, 67, 111, 109, 109, 97, 110, 100, 65, 98, 111, 114, 116, 101, 100, 32, 69, 114, 114, 111, 114]⟩, 2⟩),
    (22, ⟨⟨#[77, 67, 95, 83, 116, 111, 112]⟩, ⟨#[65, 120, 105, 115, 32, 69, 120, 101, 99, 117, 116, 101]⟩, ⟨#[68, 111, 110, 101, 32, 66, 117, 115, 121, 32, 65, 99, 116, 105, 118, 101, 32, 67, 111, 109, 109, 97, 110, 100, 65, 98, 111, 114, 116, 101, 100, 32, 69, 114, 114, 111, 114]⟩, 2⟩),
    (23, ⟨⟨#[77, 67, 95, 72, 97, 108, 116]⟩, ⟨#[65, 120, 105, 115, 32, 69, 120, 101, 99, 117, 116, 101]⟩, ⟨#[68, 111, 110, 101, 32, 66, 117, 115, 121, 32, 65, 99, 116, 105, 118, 101, 32, 67, 111, 109, 109, 97, 110, 100, 65, 98, 111, 114, 116, 101, 100, 32, 69, 114, 114, 111, 114]⟩, 2⟩),
    (24, ⟨⟨#[77, 67, 95, 77, 111, 118, 101, 65, 98, 115, 111, 108, 117, 116, 101]⟩, ⟨#[65, 120, 105, 115, 32, 69, 120, 101, 99, 117, 116, 101, 32, 80, 111, 115, 105, 116, 105, 111, 110, 32, 86, 101, 108, 111, 99, 105, 116, 121, 32, 66, 117, 102, 102, 101, 114, 77, 111, 100, 101]⟩, ⟨#[68, 111, 110, 101, 32, 66, 117, 115, 121, 32, 65, 99, 116, 105, 118, 101, 32, 67, 111, 109, 109, 97, 110, 100, 65, 98, 111, 114, 116, 101, 100, 32, 69, 114, 114, 111, 114]⟩, 2⟩),
    (25, ⟨⟨#[77, 67, 95, 77, 111, 118, 101, 82, 101, 108, 97, 116, 105, 118, 101]⟩, ⟨#[65, 120, 105, 115, 32, 69, 120, 101, 99, 117, 116, 101, 32, 68, 105, 115, 116, 97, 110, 99, 101, 32, 86, 101, 108, 111, 99, 105, 116, 121, 32, 66, 117, 102, 102, 101, 114, 77, 111, 100, 101]⟩, ⟨#[68, 111, 110, 101, 32, 66, 117, 115, 121, 32, 65, 99, 116, 105, 118, 101, 32, 67, 111, 109, 109, 97, 110, 100, 65, 98, 111, 114, 116, 101, 100, 32, 69, 114, 114, 111, 114]⟩, 2⟩),
    (26, ⟨⟨#[77, 67, 95, 77, 111, 118, 101, 65, 100, 100, 105, 116, 105, 118, 101]⟩, ⟨#[65, 120, 105, 115, 32, 69, 120, 101, 99, 117, 116, 101, 32, 68, 105, 115, 116, 97, 110, 99, 101, 32, 86, 101, 108, 111, 99, 105, 116, 121, 32, 66, 117, 102, 102, 101, 114, 77, 111, 100, 101]⟩, ⟨#[68, 111, 110, 101, 32, 66, 117, 115, 121, 32, 65, 99, 116, 105, 118, 101, 32, 67, 111, 109, 109, 97, 110, 100, 65, 98, 111, 114, 116, 101, 100, 32, 69, 114, 114, 111, 114]⟩, 2⟩),
    (27, ⟨⟨#[77, 67, 95, 77, 111, 118, 101, 86, 101, 108, 111, 99, 105, 116, 121]⟩, ⟨#[65, 120, 105, 115, 32, 69, 120, 101, 99, 117, 116, 101, 32, 86, 101, 108, 111, 99, 105, 116, 121]⟩, ⟨#[73, 110, 86, 101, 108, 111, 99, 105, 116, 121, 32, 66, 117, 115, 121, 32, 65, 99, 116, 105, 118, 101, 32, 67, 111, 109, 109, 97, 110, 100, 65, 98, 111, 114, 116, 101, 100, 32, 69, 114, 114, 111, 114]⟩, 2⟩),
    (28, ⟨⟨#[77, 67, 95, 71, 101, 97, 114, 73, 110]⟩, ⟨#[65, 120, 105, 115, 32, 69, 120, 101, 99, 117, 116, 101, 32, 77, 97, 115, 116, 101, 114, 32, 78, 117, 109, 101, 114, 97, 116, 111, 114, 32, 68, 101, 110, 111, 109, 105, 110, 97, 116, 111, 114]⟩, ⟨#[73, 110, 71, 101, 97, 114, 32, 66, 117, 115, 121, 32, 65, 99, 116, 105, 118, 101, 32, 67, 111, 109, 109, 97, 110, 100, 65, 98, 111, 114, 116, 101, 100, 32, 69, 114, 114, 111, 114]⟩, 2⟩),
    (29, ⟨⟨#[77, 67, 95, 82, 101, 115, 101, 116]⟩, ⟨#[65, 120, 105, 115, 32, 69, 120, 101, 99, 117, 116, 101]⟩, ⟨#[68, 111, 110, 101, 32, 69, 114, 114, 111, 114]⟩, 1⟩),
    (30, ⟨⟨#[77, 67, 95, 83, 101, 116, 80, 111, 115, 105, 116, 105, 111, 110]⟩, ⟨#[65, 120, 105, 115, 32, 69, 120, 101, 99, 117, 116, 101, 32, 80, 111, 115, 105, 116, 105, 111, 110]⟩, ⟨#[68, 111, 110, 101, 32, 69, 114, 114, 111, 114]⟩, 1⟩),
    (31, ⟨⟨#[77, 67, 95, 83, 101, 116, 79, 118, 101, 114, 114, 105, 100, 101]⟩, ⟨#[65, 120, 105, 115, 32, 69, 110, 97, 98, 108, 101, 32, 80, 101, 114, 99, 101, 110, 116]⟩, ⟨#[69, 110, 97, 98, 108, 101, 100]⟩, 0⟩)]
def shIn (d : Sh) : List (Int × Sh) → Int → Sh
  | [], _ => d
  | r :: l, k => if (k == r.1) = true then r.2 else shIn d l k
def sh0 : Sh := ⟨⟨#[]⟩, ⟨#[]⟩, ⟨#[]⟩, 0⟩
def motionOf (k : Int) : Sh := shIn sh0 shM k
def shapeOf (k : Int) : Sh := shIn (motionOf k) shA k
set_option maxHeartbeats 4000000 in
theorem motion_any (n : Int) (w : World) : Calls Tryd.prog 26 #[.int .i64 n] w fun e w' => e = .returned (.agg #[.string (motionOf n).name, .string (motionOf n).ins, .string (motionOf n).outs, .int .i64 (motionOf n).inner]) ∧ Below w.heap.size w w' := by
  go_enter Tryd.func26, Tryd.ntmps26
  go_wp2
  all_goals
    refine bodyPost_ret (k.results_cell rfl rfl (run_loadVar_mid _ w.heap.size 0 37 _ _ (Box.new w _ _).range rfl rfl (by kernel_rfl))) rfl ?_
    refine ⟨?_, (Below.refl _ _).alloc (Nat.le_refl _) _⟩
    simp [motionOf, shIn, shM, sh0, *]
set_option maxHeartbeats 4000000 in
theorem shape_any (n : Int) (w : World) : Calls Tryd.prog 21 #[.int .i64 n] w fun e w' => e = .returned (.agg #[.string (shapeOf n).name, .string (shapeOf n).ins, .string (shapeOf n).outs, .int .i64 (shapeOf n).inner]) ∧ Below w.heap.size w w' := by
  have MM := Lib.hid fun W => motion_any n W
  go_enter Tryd.func21, Tryd.ntmps21
  go_wp2_with (go_at_call 26; fail)
  all_goals first
    | (refine bodyPost_ret (k.results_cell rfl rfl (run_loadVar_mid _ w.heap.size 0 37 _ _ (Box.new w _ _).range rfl rfl (by kernel_rfl))) rfl ?_
       refine ⟨?_, (Below.refl _ _).alloc (Nat.le_refl _) _⟩
       simp [shapeOf, shIn, shA, *]
       done)
    | skip
  with_reducible refine (MM.out _).mono ?_
  rintro e w1 ⟨rfl, hb⟩
  obtain ⟨x, hB, _⟩ := boxes1 hb
  obtain ⟨y, z, hB2⟩ := Box.puts (us := [.string (motionOf n).name, .string (motionOf n).ins, .string (motionOf n).outs, .int .i64 (motionOf n).inner]) x rfl
  have HB := Lib.hid (hB.trans (hB2 _ (Nat.le_refl _)))
  have HY := Lib.hid y
  obtain ⟨c0, f0, c1, f1, c2, f2, c3, f3, _⟩ := x
  clear hb hB y z hB2
  go_wp2
  refine bodyPost_ret (k.results_cell rfl rfl (run_loadVar_mid _ w.heap.size 0 37 _ _ HY.out.range rfl rfl (by kernel_rfl))) rfl ?_
  refine ⟨?_, HB.out⟩
  simp [shapeOf, shIn, shA, *]
theorem sh_field (s : Sh) (w : World) : (Instr.field 37 (.agg #[.string s.name, .string s.ins, .string s.outs, .int .i64 s.inner]) 0).run Tryd.prog w = .ok (.string s.name) w := by kernel_rfl
theorem name_of (n : Int) (w : World) : Calls Tryd.prog 20 #[.int .i64 n] w fun e w' => e = .returned (.string (shapeOf n).name) ∧ Below w.heap.size w w' := by
  have SS := Lib.hid fun W => shape_any n W
  go_enter Tryd.func20, Tryd.ntmps20
  go_wp2_with (go_at_call 21; (with_reducible refine (SS.out _).mono ?_); rintro e w1 ⟨rfl, hb⟩; have HB := Lib.hid hb; have q0 := sh_field (shapeOf n) w1; clear hb)
  go_ret
  exact ⟨rfl, HB.out⟩
end Go.Proofs.YtkfmblebobjgbaaDoor.sd
