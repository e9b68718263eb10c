/- Stage 3's fixed answer: the chapter's example is put and read. No condition. -/
import Derived.Test.YtbecbiglinkijaaTFrame
import Derived.Test.YtbecbiglinkijaaTBack
namespace Go.Proofs.Ytbecbiglinkijaa.t
open Go.ChangeShapes Go.WideShapes Go.ChangeAt Go.RowKit Go.Proofs.Ytbecbiglinkijaa.s
set_option linter.unusedVariables false

set_option maxHeartbeats 400000 in
theorem awake_any (w : World) :
    Calls Try.prog 7 #[] w fun e w' => e = .returned (.bool true) ∧ Below w.heap.size w w' := by
  have c1 := fun W => feed_yes 5 7 (-1) (by decide) W
  have e5 : v8 5 = 5 := rfl
  have e7 : v8 7 = 7 := rfl
  rw [e5, e7] at c1
  have HC1 := Lib.hid c1
  clear c1 e5 e7
  obtain ⟨L, hL⟩ : ∃ L, frameV signF 5 7 (place64 (-1)) = L := ⟨_, rfl⟩
  have HL := Lib.hid hL
  have hr := read_back signF 5 7 127 (-1) (by decide) (by decide) (by decide)
  have hl : L.length = 13 := by rw [← hL, frame_length]
  have g0 : v8 (L.getD 0 0) = 70 := by rw [← hL, frame_0]; rfl
  have g3 : v8 (L.getD 3 0) = 255 := by
    have : L.getD 3 0 = byteAt (place64 (-1)) 7 := by rw [← hL]; rfl
    rw [this, byteAt_val]; rfl
  rw [hL] at hr
  have HR : Hid (rE signF 127 L = 0 ∧ rS signF 127 L = 5 ∧ rW signF 127 L = 7 ∧ rP signF 127 L = -1) := Lib.hid ⟨hr.1, hr.2.1, hr.2.2.1, hr.2.2.2⟩
  have HLL := Lib.hid hl
  have G := Lib.hid (And.intro g0 g3)
  have HLL2 : Hid (L.length ≤ 10000) := Lib.hid (by omega)
  clear hr hL hl g0 g3
  go_enter Try.func7, Try.ntmps7
  go_wp2_with (go_at_call 8; ((with_reducible refine (HC1.out _).mono ?_); rintro e w1 ⟨A, cap, rfl, hB, h1, h2, hb⟩; rw [HL.out] at hB; have HB := Lib.hid hB; have HW1 := Lib.hid hb; have H1 := Lib.hid h1; have H2 := Lib.hid h2; clear hB hb h1 h2))
  obtain ⟨b, o, rfl, hbB, hc⟩ := HB.out (by have := HLL.out; omega)
  have HC := Lib.hid hc
  have d0 := hc 0 (by have := HLL.out; omega)
  have d3 := hc 3 (by have := HLL.out; omega)
  rw [G.out.1, Nat.add_zero] at d0
  rw [G.out.2] at d3
  clear hc
  go_wp2_with (go_at_call 12; ((with_reducible refine (rfeed_any L 13 HLL.out HLL2.out _ _ _ H1.out H2.out _ HB.out (Nat.le_refl _)).mono ?_); rintro e w2 ⟨he, hb2⟩; rw [HR.out.1, HR.out.2.1, HR.out.2.2.1, HR.out.2.2.2] at he; subst he; have k0 := (hb2.cell (p := ⟨b, o, none⟩) hbB).trans d0; have k3 := (hb2.cell (p := ⟨b, o + 3, none⟩) hbB).trans d3; have hz := Nat.lt_of_lt_of_le hbB hb2.size; have HW2 := Lib.hid (HW1.out.trans (hb2.mono HW1.out.size)); clear d0 d3 hb2))
  go_ret
  refine ⟨rfl, ?_⟩
  repeat (first | exact HW2.out | (refine Below.setCell ?_ HW2.out.size _) | (refine Below.alloc ?_ HW2.out.size _))
end Go.Proofs.Ytbecbiglinkijaa.t
