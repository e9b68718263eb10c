/- Stage 7's fixed answer: the chapter's example. No condition. -/
import Derived.Test.YtdfgjfojneoljaaJDrive
import Derived.Test.YtdfgjfojneoljaaTBack
namespace Go.Proofs.Ytdfgjfojneoljaa.j
open Go.ChangeShapes Go.WideShapes Go.ChangeAt Go.RowKit Go.Proofs.Ytdfgjfojneoljaa.s Go.Proofs.Ytdfgjfojneoljaa.t
set_option linter.unusedVariables false

def exF : List (BitVec 8) := frameV signF 9 23 (place64 5)
theorem ex_come : comeD (newD 2 1) exF = ⟨3, 2, 0, 9, 1, true, 0, 1, false, 0, 1, false, 0, 5, true, 0⟩ := by
  have hr := read_back signF 9 23 127 5 (by decide) (by decide) (by decide)
  have hc : cnt (newD 2 1).last exF = true := cnt_yes ⟨hr.1, .inl rfl⟩
  rw [come_yes hc]
  unfold exF
  rw [hr.2.1, hr.2.2.1, hr.2.2.2]
  rfl
set_option maxHeartbeats 1000000 in
theorem awake_any (w : World) : Calls Try.prog 7 #[] w fun e w' => e = .returned (.bool true) ∧ Below w.heap.size w w' := by
  have HN := Lib.hid fun W => new_yes 2 1 (by omega) (by omega) (by omega) (by omega) W
  have p1 := fun W => ref_put_yes signF 9 23 127 5 (by decide) W
  have hp : v8 9 = 9 ∧ v8 23 = 23 := ⟨rfl, rfl⟩
  rw [signF_val, hp.1, hp.2] at p1
  have HP := Lib.hid p1
  have HC := Lib.hid fun (W : World) (A : Option Addr) (cap : Nat) (h1 : 13 ≤ cap) (h2 : cap ≤ maxLen) (h : Bytes W W.heap.size A exF) => come_ok (newD 2 1) (by decide) exF 13 (frame_length _ _ _ _) (by unfold exF; rw [frame_length]; decide) W.heap.size A cap h1 h2 W h (Nat.le_refl _)
  rw [ex_come] at HC
  clear p1 hp
  unfold newD dV at HN HC
  dsimp only at HN HC
  go_enter Try.func7, Try.ntmps7
  go_upto_region 3 with (first
    | (go_at_call 8; ((with_reducible refine (HN.out _).mono ?_); rintro e w1 ⟨rfl, hb⟩; have H1 := Lib.hid hb; clear hb))
    | (go_at_call 17; ((with_reducible refine (HP.out _).mono ?_); rintro e w4 ⟨A, cap, rfl, hB, h1, h2, hb⟩; obtain ⟨x1, x2, x3⟩ := k.boxes1 hb; have X4 := Lib.hid x1; have H4 := Lib.hid (H1.out.trans (x2.mono H1.out.size)); have Y4 := Lib.hid (And.intro hB (And.intro h1 h2)); clear hb hB h1 h2 x1 x2)))
  go_step
  refine wpList_load_mid rfl 27 (.tmp 1) rfl w1.heap.size 0 rfl [.int .i64 0, .int .i64 2, .int .i64 0, .int .i64 (-1), .int .i64 1, .bool false, .int .i64 0, .int .i64 1, .bool false, .int .i64 0, .int .i64 1, .bool false, .int .i64 0, .int .i64 0, .bool false, .int .i64 0] _ X4.out.range rfl rfl (by kernel_rfl) ?_
  go_wp2_with (go_at_call 11; fail)
  (go_at_call 11; (refine (HC.out w4 A cap Y4.out.2.1 Y4.out.2.2 Y4.out.1).mono ?_); rintro e w5 ⟨rfl, hb⟩; have X5 := Lib.hid (X4.out.below hb x3); have H5 := Lib.hid (H4.out.trans (hb.mono H4.out.size)); have x5 := Nat.lt_of_lt_of_le x3 hb.size; clear hb)
  first | go_values | go_skip | go_guarded | go_upon | go_back | go_simp
  go_step
  refine wpList_store_mid rfl 27 (.tmp 1) (.tmp 15) rfl w1.heap.size 0 #[.int .i64 3, .int .i64 2, .int .i64 0, .int .i64 9, .int .i64 1, .bool true, .int .i64 0, .int .i64 1, .bool false, .int .i64 0, .int .i64 1, .bool false, .int .i64 0, .int .i64 5, .bool true, .int .i64 0] rfl rfl (k.there_of X5.out rfl) (by kernel_rfl) (by simp [Value.oneCell']) ?_
  obtain ⟨W, hW, h1, h2, h3, h5⟩ := k.stored (us := [.int .i64 3, .int .i64 2, .int .i64 0, .int .i64 9, .int .i64 1, .bool true, .int .i64 0, .int .i64 1, .bool false, .int .i64 0, .int .i64 1, .bool false, .int .i64 0, .int .i64 5, .bool true, .int .i64 0]) X5.out rfl
  change wpList _ _ _ _ _ (World.setCells _ _ _ [.int .i64 3, .int .i64 2, .int .i64 0, .int .i64 9, .int .i64 1, .bool true, .int .i64 0, .int .i64 1, .bool false, .int .i64 0, .int .i64 1, .bool false, .int .i64 0, .int .i64 5, .bool true, .int .i64 0])
  rw [hW]
  have ⟨rc0, rf0⟩ := k.cell_of h1 (i := 0) rfl
  have ⟨rc5, rf5⟩ := k.cell_of h1 (i := 5) rfl
  have ⟨rc8, rf8⟩ := k.cell_of h1 (i := 8) rfl
  have ⟨rc13, rf13⟩ := k.cell_of h1 (i := 13) rfl
  have ⟨rc14, rf14⟩ := k.cell_of h1 (i := 14) rfl
  have H3 := Lib.hid (h3 w.heap.size H1.out.size)
  clear hW h1 h2 h3 h5
  go_wp2
  go_ret
  exact ⟨rfl, H5.out.trans H3.out⟩
end Go.Proofs.Ytdfgjfojneoljaa.j
