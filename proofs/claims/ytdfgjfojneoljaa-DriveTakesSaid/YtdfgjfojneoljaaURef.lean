/- What servitorref04's Right and Come answer, of any watch and any bytes; what was in memory is as it was. No condition but that the bytes are read where they lie. -/
import Derived.Test.YtdfgjfojneoljaaUMath
namespace Go.Proofs.Ytdfgjfojneoljaa.u
open Go.ChangeShapes Go.WideShapes Go.ChangeAt Go.RowKit Go.Proofs.Ytdfgjfojneoljaa.s Go.Proofs.Ytdfgjfojneoljaa.t
set_option linter.unusedVariables false

def watchV (lim mis last : Int) : Value := .agg #[.int .i64 lim, .int .i64 mis, .int .i64 last]
def BoxW (w : World) (lim mis last : Int) : World := w.alloc (.cells #[.int .i64 lim, .int .i64 mis, .int .i64 last] 23)

theorem refright_any (lim mis last : Int) (w : World) :
    Calls Try.prog 22 #[.agg #[.int .i64 lim, .int .i64 mis, .int .i64 last]] w fun e w' => e = .returned (.bool (rightW lim mis last)) ∧ BoxW w lim mis last = w' := by
  by_cases h1 : 1 ≤ lim
  · by_cases h2 : lim ≤ 100
    · by_cases h3 : 0 ≤ mis
      · by_cases h4 : mis ≤ lim
        · by_cases h5 : -1 ≤ last
          · by_cases h6 : last ≤ 255
            · have HV := Lib.hid (right_yes (lim := lim) (mis := mis) (last := last) ⟨h1, h2, h3, h4, h5, h6⟩)
              go_enter Try.func22, Try.ntmps22
              go_wp2
              go_ret
              exact ⟨by rw [HV.out]; rfl, rfl⟩
            · have HV := Lib.hid (right_no (lim := lim) (mis := mis) (last := last) fun h => h6 h.2.2.2.2.2)
              go_enter Try.func22, Try.ntmps22
              go_wp2
              go_ret
              exact ⟨by rw [HV.out]; rfl, rfl⟩
          · have HV := Lib.hid (right_no (lim := lim) (mis := mis) (last := last) fun h => h5 h.2.2.2.2.1)
            go_enter Try.func22, Try.ntmps22
            go_wp2
            go_ret
            exact ⟨by rw [HV.out]; rfl, rfl⟩
        · have HV := Lib.hid (right_no (lim := lim) (mis := mis) (last := last) fun h => h4 h.2.2.2.1)
          go_enter Try.func22, Try.ntmps22
          go_wp2
          go_ret
          exact ⟨by rw [HV.out]; rfl, rfl⟩
      · have HV := Lib.hid (right_no (lim := lim) (mis := mis) (last := last) fun h => h3 h.2.2.1)
        go_enter Try.func22, Try.ntmps22
        go_wp2
        go_ret
        exact ⟨by rw [HV.out]; rfl, rfl⟩
    · have HV := Lib.hid (right_no (lim := lim) (mis := mis) (last := last) fun h => h2 h.2.1)
      go_enter Try.func22, Try.ntmps22
      go_wp2
      go_ret
      exact ⟨by rw [HV.out]; rfl, rfl⟩
  · have HV := Lib.hid (right_no (lim := lim) (mis := mis) (last := last) fun h => h1 h.1)
    go_enter Try.func22, Try.ntmps22
    go_wp2
    go_ret
    exact ⟨by rw [HV.out]; rfl, rfl⟩

set_option maxHeartbeats 400000 in
theorem refcome_bad (lim mis last : Int) (h : ¬ RightW lim mis last) (v : Value) (w : World) :
    Calls Try.prog 34 #[.agg #[.int .i64 lim, .int .i64 mis, .int .i64 last], v] w fun e w' =>
      e = .returned (.tuple #[.agg #[.int .i64 0, .int .i64 0, .int .i64 0], .agg #[.int .i64 0, .int .i64 0, .int .i64 0], .bool false]) ∧ Below w.heap.size w w' := by
  have c1 := fun W => refright_any lim mis last W
  rw [right_no h] at c1
  have HC := Lib.hid c1
  clear c1 h
  go_enter Try.func34, Try.ntmps34
  go_wp2_with (go_at_call 22; ((with_reducible refine (HC.out _).mono ?_); rintro e w1 ⟨rfl, rfl⟩; unfold BoxW))
  refine bodyPost_ret (v := .tuple #[.agg #[.int .i64 0, .int .i64 0, .int .i64 0], .agg #[.int .i64 0, .int .i64 0, .int .i64 0], .bool false]) (by simp [results, Try.results34, go_sem]) rfl ⟨rfl, ?_⟩
  repeat (first | exact Below.refl _ _ | (refine Below.setCell ?_ (by first | omega | (simp; done) | (simp; omega)) _) | (refine Below.alloc ?_ (by first | omega | (simp; done) | (simp; omega)) _))

/-- does a frame count? -/
def Counts (last : Int) (l : List (BitVec 8)) : Prop := rE signF 127 l = 0 ∧ Newer (rS signF 127 l) last 128
def ComePost (lim mis last : Int) (l : List (BitVec 8)) (w : World) (e : Ending) (w' : World) : Prop :=
  Below w.heap.size w w' ∧ ((Counts last l ∧ e = .returned (.tuple #[.agg #[.int .i64 lim, .int .i64 0, .int .i64 (rS signF 127 l)], .agg #[.int .i64 (rS signF 127 l), .int .i64 (rW signF 127 l), .int .i64 (rP signF 127 l)], .bool true])) ∨ (¬ Counts last l ∧ e = .returned (.tuple #[.agg #[.int .i64 lim, .int .i64 (if mis < lim then mis + 1 else mis), .int .i64 last], .agg #[.int .i64 0, .int .i64 0, .int .i64 0], .bool false])))

set_option maxHeartbeats 1000000 in
theorem refcome_right (lim mis last : Int) (h : RightW lim mis last) (l : List (BitVec 8)) (n : Nat) (hn : l.length = n) (hl : l.length ≤ 10000) (B : Nat) (A : Option Addr) (cap : Nat) (hcap : n ≤ cap) (hmax : cap ≤ maxLen) (w : World) (hA : Bytes w B A l) (hB : B ≤ w.heap.size) :
    Calls Try.prog 34 #[.agg #[.int .i64 lim, .int .i64 mis, .int .i64 last], .slice A n cap] w (ComePost lim mis last l w) := by
  have c1 := fun W => refright_any lim mis last W
  rw [right_yes h] at c1
  have HC := Lib.hid c1
  have c2 := fun (W : World) (hb : Below B w W) => read_any signF 127 l n hn hl B A cap hcap hmax W (hA.below hb) (Nat.le_trans hB hb.size)
  rw [signF_val] at c2
  have HR := Lib.hid c2
  have HB := Lib.hid hB
  have hS0 := rS_in signF 127 l
  obtain ⟨g1, g2, g3, g4, g5, g6⟩ := h
  clear c1 c2 hn hl hcap hmax hA hB
  have HP : Hid (∀ e w', Below w.heap.size w w' → Counts last l → e = .returned (.tuple #[.agg #[.int .i64 lim, .int .i64 0, .int .i64 (rS signF 127 l)], .agg #[.int .i64 (rS signF 127 l), .int .i64 (rW signF 127 l), .int .i64 (rP signF 127 l)], .bool true]) → ComePost lim mis last l w e w') := Lib.hid fun e w' hb hc he => ⟨hb, .inl ⟨hc, he⟩⟩
  have HQ : Hid (∀ e w', Below w.heap.size w w' → ¬ Counts last l → e = .returned (.tuple #[.agg #[.int .i64 lim, .int .i64 (if mis < lim then mis + 1 else mis), .int .i64 last], .agg #[.int .i64 0, .int .i64 0, .int .i64 0], .bool false]) → ComePost lim mis last l w e w') := Lib.hid fun e w' hb hc he => ⟨hb, .inr ⟨hc, he⟩⟩
  have HD : Hid (Counts last l ↔ rE signF 127 l = 0 ∧ Newer (rS signF 127 l) last 128) := Lib.hid Iff.rfl
  obtain ⟨S, eS⟩ : ∃ S, rS signF 127 l = S := ⟨_, rfl⟩
  obtain ⟨X, eX⟩ : ∃ X, rW signF 127 l = X := ⟨_, rfl⟩
  obtain ⟨P, eP⟩ : ∃ P, rP signF 127 l = P := ⟨_, rfl⟩
  obtain ⟨E, eE⟩ : ∃ E, rE signF 127 l = E := ⟨_, rfl⟩
  rw [eS, eX, eP] at HP
  rw [eS, eE] at HD
  rw [eS] at hS0
  have HV := Lib.hid (And.intro eS (And.intro eX (And.intro eP eE)))
  have hS := hS0
  clear hS0 eS eX eP eE
  by_cases hE0 : E = 0
  · subst hE0
    by_cases hl0 : 0 ≤ last
    · have hq : (last == -1) = false := by rw [beq_eq_false_iff_ne]; omega
      have HN1 : Hid (Newer S last 1 ↔ False) := Lib.hid (by rw [newer_start]; exact ⟨fun h => by omega, fun h => h.elim⟩)
      go_enter Try.func34, Try.ntmps34
      go_wp2_with (first
        | (go_at_call 22; ((with_reducible refine (HC.out _).mono ?_); rintro e w1 ⟨rfl, rfl⟩; unfold BoxW))
        | (go_at_call 18; ((with_reducible refine (HR.out _ (by repeat (first | exact Below.refl _ _ | (refine Below.alloc ?_ (by first | exact HB.out | (simp; have := HB.out; omega)) _)))).mono ?_); rintro e w3 ⟨he, hb⟩; rw [HV.out.1, HV.out.2.1, HV.out.2.2.1, HV.out.2.2.2] at he; subst he; have k00 : w3.cell? ⟨w.heap.size, 0, none⟩ = some (.int .i64 lim) := (hb.cell (p := ⟨w.heap.size, 0, none⟩) (by simp; try omega)).trans (by simp [go_sem]); have z00 : w3.frozen? ⟨w.heap.size, 0, none⟩ = false := (hb.frozen (p := ⟨w.heap.size, 0, none⟩) (by simp; try omega)).trans (by simp [go_sem]); have k01 : w3.cell? ⟨w.heap.size, 1, none⟩ = some (.int .i64 mis) := (hb.cell (p := ⟨w.heap.size, 1, none⟩) (by simp; try omega)).trans (by simp [go_sem]); have z01 : w3.frozen? ⟨w.heap.size, 1, none⟩ = false := (hb.frozen (p := ⟨w.heap.size, 1, none⟩) (by simp; try omega)).trans (by simp [go_sem]); have k02 : w3.cell? ⟨w.heap.size, 2, none⟩ = some (.int .i64 last) := (hb.cell (p := ⟨w.heap.size, 2, none⟩) (by simp; try omega)).trans (by simp [go_sem]); have z02 : w3.frozen? ⟨w.heap.size, 2, none⟩ = false := (hb.frozen (p := ⟨w.heap.size, 2, none⟩) (by simp; try omega)).trans (by simp [go_sem]); have k10 : w3.cell? ⟨w.heap.size + 1, 0, none⟩ = some (.int .i64 0) := (hb.cell (p := ⟨w.heap.size + 1, 0, none⟩) (by simp; try omega)).trans (by simp [go_sem]); have z10 : w3.frozen? ⟨w.heap.size + 1, 0, none⟩ = false := (hb.frozen (p := ⟨w.heap.size + 1, 0, none⟩) (by simp; try omega)).trans (by simp [go_sem]); have k11 : w3.cell? ⟨w.heap.size + 1, 1, none⟩ = some (.int .i64 0) := (hb.cell (p := ⟨w.heap.size + 1, 1, none⟩) (by simp; try omega)).trans (by simp [go_sem]); have z11 : w3.frozen? ⟨w.heap.size + 1, 1, none⟩ = false := (hb.frozen (p := ⟨w.heap.size + 1, 1, none⟩) (by simp; try omega)).trans (by simp [go_sem]); have k12 : w3.cell? ⟨w.heap.size + 1, 2, none⟩ = some (.int .i64 0) := (hb.cell (p := ⟨w.heap.size + 1, 2, none⟩) (by simp; try omega)).trans (by simp [go_sem]); have z12 : w3.frozen? ⟨w.heap.size + 1, 2, none⟩ = false := (hb.frozen (p := ⟨w.heap.size + 1, 2, none⟩) (by simp; try omega)).trans (by simp [go_sem]); have k20 : w3.cell? ⟨w.heap.size + 1 + 1, 0, none⟩ = some (.int .i64 0) := (hb.cell (p := ⟨w.heap.size + 1 + 1, 0, none⟩) (by simp; try omega)).trans (by simp [go_sem]); have z20 : w3.frozen? ⟨w.heap.size + 1 + 1, 0, none⟩ = false := (hb.frozen (p := ⟨w.heap.size + 1 + 1, 0, none⟩) (by simp; try omega)).trans (by simp [go_sem]); have k21 : w3.cell? ⟨w.heap.size + 1 + 1, 1, none⟩ = some (.int .i64 0) := (hb.cell (p := ⟨w.heap.size + 1 + 1, 1, none⟩) (by simp; try omega)).trans (by simp [go_sem]); have z21 : w3.frozen? ⟨w.heap.size + 1 + 1, 1, none⟩ = false := (hb.frozen (p := ⟨w.heap.size + 1 + 1, 1, none⟩) (by simp; try omega)).trans (by simp [go_sem]); have k22 : w3.cell? ⟨w.heap.size + 1 + 1, 2, none⟩ = some (.int .i64 0) := (hb.cell (p := ⟨w.heap.size + 1 + 1, 2, none⟩) (by simp; try omega)).trans (by simp [go_sem]); have z22 : w3.frozen? ⟨w.heap.size + 1 + 1, 2, none⟩ = false := (hb.frozen (p := ⟨w.heap.size + 1 + 1, 2, none⟩) (by simp; try omega)).trans (by simp [go_sem]); have HB3 := Lib.hid hb; clear hb)))
      have HF : Hid (Below w.heap.size w w3) := Lib.hid (Below.trans (by repeat (first | exact Below.refl _ _ | (refine Below.alloc ?_ (by first | omega | (simp; done) | (simp; omega)) _))) (HB3.out.mono (by simp; try omega)))
      go_loop [11, 12] (fun b d => ∃ (k : Int) (c : Bool), 1 ≤ k ∧ k ≤ 128 ∧ d = .int .i64 k ∧ b = .bool c ∧ (c = true ↔ Newer S last k)) (fun _ d => (128 - intOf d).toNat)
      case atStart => exact ⟨1, false, by omega, by omega, rfl, rfl, by rw [HN1.out]; simp⟩
      case round =>
        obtain ⟨k, c, hk1, hk2, rfl, rfl, hc⟩ := hrel
        have HCC := Lib.hid hc
        clear hc
        by_cases hlt : k ≤ 127
        · have hm0 : 0 ≤ last + k := by omega
          by_cases hit : (last + k) % 256 = S
          · have hb : ((last + k) % 256 == S) = true := by rw [hit]; simp
            have HH := Lib.hid (newer_hit hl0 hk1 hlt hit)
            clear hit
            go_wp2
            go_round
            case rel => exact ⟨k + 1, true, by omega, by omega, rfl, rfl, by simp [HH.out]⟩
            case measure => simp [intOf]; omega
          · have hb : ((last + k) % 256 == S) = false := by rw [beq_eq_false_iff_ne]; exact hit
            have HH := Lib.hid (newer_miss hS hl0 hk1 hlt hit)
            clear hit
            go_wp2
            go_round
            case rel => exact ⟨k + 1, c, by omega, by omega, rfl, rfl, by rw [HCC.out, HH.out]⟩
            case measure => simp [intOf]; omega
        · have hk : k = 128 := by omega
          subst hk
          cases c
          · have HNN : Hid (¬ Newer S last 128) := Lib.hid fun h => absurd (HCC.out.2 h) (by decide)
            by_cases hml : mis < lim
            · have HI : Hid ((if mis < lim then mis + 1 else mis) = mis + 1) := Lib.hid (by rw [if_pos hml])
              go_wp2
              have j10 : (w3.setCell ⟨w.heap.size, 1, none⟩ (.int .i64 (mis + 1))).cell? ⟨w.heap.size + 1, 0, none⟩ = some (.int .i64 0) := by simp [go_sem, k10]
              have j20 : (w3.setCell ⟨w.heap.size, 1, none⟩ (.int .i64 (mis + 1))).cell? ⟨w.heap.size + 1 + 1, 0, none⟩ = some (.int .i64 0) := by simp [go_sem, k20]
              have j11 : (w3.setCell ⟨w.heap.size, 1, none⟩ (.int .i64 (mis + 1))).cell? ⟨w.heap.size + 1, 1, none⟩ = some (.int .i64 0) := by simp [go_sem, k11]
              have j21 : (w3.setCell ⟨w.heap.size, 1, none⟩ (.int .i64 (mis + 1))).cell? ⟨w.heap.size + 1 + 1, 1, none⟩ = some (.int .i64 0) := by simp [go_sem, k21]
              have j12 : (w3.setCell ⟨w.heap.size, 1, none⟩ (.int .i64 (mis + 1))).cell? ⟨w.heap.size + 1, 2, none⟩ = some (.int .i64 0) := by simp [go_sem, k12]
              have j22 : (w3.setCell ⟨w.heap.size, 1, none⟩ (.int .i64 (mis + 1))).cell? ⟨w.heap.size + 1 + 1, 2, none⟩ = some (.int .i64 0) := by simp [go_sem, k22]
              obtain ⟨W, hW, r0, r1, r2, r3, r4, r5, _, hbel⟩ := put33 (w := w3.setCell ⟨w.heap.size, 1, none⟩ (.int .i64 (mis + 1))) (g := w.heap.size + 1) (h := w.heap.size + 1 + 1) (by omega) j10 j11 j12 j20 j21 j22 (.int .i64 lim) (.int .i64 (mis + 1)) (.int .i64 last) (.int .i64 0) (.int .i64 0) (.int .i64 0)
              rw [hW]
              refine bodyPost_ret (v := .tuple #[.agg #[.int .i64 lim, .int .i64 (mis + 1), .int .i64 last], .agg #[.int .i64 0, .int .i64 0, .int .i64 0], .bool false]) (by simp [results, Try.results34, go_sem, r0, r1, r2, r3, r4, r5]) rfl (HQ.out _ _ ((HF.out.setCell (Nat.le_refl _) _).trans (hbel _ (by omega) (by omega))) (fun hc => absurd (HD.out.1 hc) (fun h => HNN.out h.2)) (by rw [HI.out]))
            · have HI : Hid ((if mis < lim then mis + 1 else mis) = mis) := Lib.hid (by rw [if_neg hml])
              go_wp2
              obtain ⟨W, hW, r0, r1, r2, r3, r4, r5, _, hbel⟩ := put33 (w := w3) (g := w.heap.size + 1) (h := w.heap.size + 1 + 1) (by omega) k10 k11 k12 k20 k21 k22 (.int .i64 lim) (.int .i64 mis) (.int .i64 last) (.int .i64 0) (.int .i64 0) (.int .i64 0)
              rw [hW]
              refine bodyPost_ret (v := .tuple #[.agg #[.int .i64 lim, .int .i64 mis, .int .i64 last], .agg #[.int .i64 0, .int .i64 0, .int .i64 0], .bool false]) (by simp [results, Try.results34, go_sem, r0, r1, r2, r3, r4, r5]) rfl (HQ.out _ _ (HF.out.trans (hbel _ (by omega) (by omega))) (fun hc => absurd (HD.out.1 hc) (fun h => HNN.out h.2)) (by rw [HI.out]))
          · have HNN : Hid (Newer S last 128) := Lib.hid (HCC.out.1 rfl)
            go_wp2
            obtain ⟨W, hW, r0, r1, r2, r3, r4, r5, _, hbel⟩ := put33 (w := w3) (g := w.heap.size + 1) (h := w.heap.size + 1 + 1) (by omega) k10 k11 k12 k20 k21 k22 (.int .i64 lim) (.int .i64 0) (.int .i64 S) (.int .i64 S) (.int .i64 X) (.int .i64 P)
            rw [hW]
            refine bodyPost_ret (v := .tuple #[.agg #[.int .i64 lim, .int .i64 0, .int .i64 S], .agg #[.int .i64 S, .int .i64 X, .int .i64 P], .bool true]) (by simp [results, Try.results34, go_sem, r0, r1, r2, r3, r4, r5]) rfl (HP.out _ _ (HF.out.trans (hbel _ (by omega) (by omega))) (HD.out.2 (by refine ⟨?_, ?_⟩; first | rfl | trivial; exact HNN.out)) rfl)
    · have HLM : Hid (last = -1) := Lib.hid (by omega)
      have hq : (last == -1) = true := by rw [HLM.out]; rfl
      go_enter Try.func34, Try.ntmps34
      go_wp2_with (first
        | (go_at_call 22; ((with_reducible refine (HC.out _).mono ?_); rintro e w1 ⟨rfl, rfl⟩; unfold BoxW))
        | (go_at_call 18; ((with_reducible refine (HR.out _ (by repeat (first | exact Below.refl _ _ | (refine Below.alloc ?_ (by first | exact HB.out | (simp; have := HB.out; omega)) _)))).mono ?_); rintro e w3 ⟨he, hb⟩; rw [HV.out.1, HV.out.2.1, HV.out.2.2.1, HV.out.2.2.2] at he; subst he; have k00 : w3.cell? ⟨w.heap.size, 0, none⟩ = some (.int .i64 lim) := (hb.cell (p := ⟨w.heap.size, 0, none⟩) (by simp; try omega)).trans (by simp [go_sem]); have z00 : w3.frozen? ⟨w.heap.size, 0, none⟩ = false := (hb.frozen (p := ⟨w.heap.size, 0, none⟩) (by simp; try omega)).trans (by simp [go_sem]); have k01 : w3.cell? ⟨w.heap.size, 1, none⟩ = some (.int .i64 mis) := (hb.cell (p := ⟨w.heap.size, 1, none⟩) (by simp; try omega)).trans (by simp [go_sem]); have z01 : w3.frozen? ⟨w.heap.size, 1, none⟩ = false := (hb.frozen (p := ⟨w.heap.size, 1, none⟩) (by simp; try omega)).trans (by simp [go_sem]); have k02 : w3.cell? ⟨w.heap.size, 2, none⟩ = some (.int .i64 last) := (hb.cell (p := ⟨w.heap.size, 2, none⟩) (by simp; try omega)).trans (by simp [go_sem]); have z02 : w3.frozen? ⟨w.heap.size, 2, none⟩ = false := (hb.frozen (p := ⟨w.heap.size, 2, none⟩) (by simp; try omega)).trans (by simp [go_sem]); have k10 : w3.cell? ⟨w.heap.size + 1, 0, none⟩ = some (.int .i64 0) := (hb.cell (p := ⟨w.heap.size + 1, 0, none⟩) (by simp; try omega)).trans (by simp [go_sem]); have z10 : w3.frozen? ⟨w.heap.size + 1, 0, none⟩ = false := (hb.frozen (p := ⟨w.heap.size + 1, 0, none⟩) (by simp; try omega)).trans (by simp [go_sem]); have k11 : w3.cell? ⟨w.heap.size + 1, 1, none⟩ = some (.int .i64 0) := (hb.cell (p := ⟨w.heap.size + 1, 1, none⟩) (by simp; try omega)).trans (by simp [go_sem]); have z11 : w3.frozen? ⟨w.heap.size + 1, 1, none⟩ = false := (hb.frozen (p := ⟨w.heap.size + 1, 1, none⟩) (by simp; try omega)).trans (by simp [go_sem]); have k12 : w3.cell? ⟨w.heap.size + 1, 2, none⟩ = some (.int .i64 0) := (hb.cell (p := ⟨w.heap.size + 1, 2, none⟩) (by simp; try omega)).trans (by simp [go_sem]); have z12 : w3.frozen? ⟨w.heap.size + 1, 2, none⟩ = false := (hb.frozen (p := ⟨w.heap.size + 1, 2, none⟩) (by simp; try omega)).trans (by simp [go_sem]); have k20 : w3.cell? ⟨w.heap.size + 1 + 1, 0, none⟩ = some (.int .i64 0) := (hb.cell (p := ⟨w.heap.size + 1 + 1, 0, none⟩) (by simp; try omega)).trans (by simp [go_sem]); have z20 : w3.frozen? ⟨w.heap.size + 1 + 1, 0, none⟩ = false := (hb.frozen (p := ⟨w.heap.size + 1 + 1, 0, none⟩) (by simp; try omega)).trans (by simp [go_sem]); have k21 : w3.cell? ⟨w.heap.size + 1 + 1, 1, none⟩ = some (.int .i64 0) := (hb.cell (p := ⟨w.heap.size + 1 + 1, 1, none⟩) (by simp; try omega)).trans (by simp [go_sem]); have z21 : w3.frozen? ⟨w.heap.size + 1 + 1, 1, none⟩ = false := (hb.frozen (p := ⟨w.heap.size + 1 + 1, 1, none⟩) (by simp; try omega)).trans (by simp [go_sem]); have k22 : w3.cell? ⟨w.heap.size + 1 + 1, 2, none⟩ = some (.int .i64 0) := (hb.cell (p := ⟨w.heap.size + 1 + 1, 2, none⟩) (by simp; try omega)).trans (by simp [go_sem]); have z22 : w3.frozen? ⟨w.heap.size + 1 + 1, 2, none⟩ = false := (hb.frozen (p := ⟨w.heap.size + 1 + 1, 2, none⟩) (by simp; try omega)).trans (by simp [go_sem]); have HB3 := Lib.hid hb; clear hb)))
      have HF : Hid (Below w.heap.size w w3) := Lib.hid (Below.trans (by repeat (first | exact Below.refl _ _ | (refine Below.alloc ?_ (by first | omega | (simp; done) | (simp; omega)) _))) (HB3.out.mono (by simp; try omega)))
      go_loop [11, 12] (fun b d => ∃ k : Int, 1 ≤ k ∧ k ≤ 128 ∧ d = .int .i64 k ∧ b = .bool true) (fun _ d => (128 - intOf d).toNat)
      case atStart => exact ⟨1, by omega, by omega, rfl, rfl⟩
      case round =>
        obtain ⟨k, hk1, hk2, rfl, rfl⟩ := hrel
        by_cases hlt : k ≤ 127
        · go_wp2
          go_round
          case rel => exact ⟨k + 1, by omega, by omega, rfl, rfl⟩
          case measure => simp [intOf]; omega
        · have hk : k = 128 := by omega
          subst hk
          go_wp2
          obtain ⟨W, hW, r0, r1, r2, r3, r4, r5, _, hbel⟩ := put33 (w := w3) (g := w.heap.size + 1) (h := w.heap.size + 1 + 1) (by omega) k10 k11 k12 k20 k21 k22 (.int .i64 lim) (.int .i64 0) (.int .i64 S) (.int .i64 S) (.int .i64 X) (.int .i64 P)
          rw [hW]
          refine bodyPost_ret (v := .tuple #[.agg #[.int .i64 lim, .int .i64 0, .int .i64 S], .agg #[.int .i64 S, .int .i64 X, .int .i64 P], .bool true]) (by simp [results, Try.results34, go_sem, r0, r1, r2, r3, r4, r5]) rfl (HP.out _ _ (HF.out.trans (hbel _ (by omega) (by omega))) (HD.out.2 (by refine ⟨?_, ?_⟩; first | rfl | trivial; exact (.inl HLM.out))) rfl)
  · have hq : (E == 0) = false := by rw [beq_eq_false_iff_ne]; exact hE0
    have HE0 := Lib.hid hE0
    clear hE0
    go_enter Try.func34, Try.ntmps34
    go_wp2_with (first
      | (go_at_call 22; ((with_reducible refine (HC.out _).mono ?_); rintro e w1 ⟨rfl, rfl⟩; unfold BoxW))
      | (go_at_call 18; ((with_reducible refine (HR.out _ (by repeat (first | exact Below.refl _ _ | (refine Below.alloc ?_ (by first | exact HB.out | (simp; have := HB.out; omega)) _)))).mono ?_); rintro e w3 ⟨he, hb⟩; rw [HV.out.1, HV.out.2.1, HV.out.2.2.1, HV.out.2.2.2] at he; subst he; have k00 : w3.cell? ⟨w.heap.size, 0, none⟩ = some (.int .i64 lim) := (hb.cell (p := ⟨w.heap.size, 0, none⟩) (by simp; try omega)).trans (by simp [go_sem]); have z00 : w3.frozen? ⟨w.heap.size, 0, none⟩ = false := (hb.frozen (p := ⟨w.heap.size, 0, none⟩) (by simp; try omega)).trans (by simp [go_sem]); have k01 : w3.cell? ⟨w.heap.size, 1, none⟩ = some (.int .i64 mis) := (hb.cell (p := ⟨w.heap.size, 1, none⟩) (by simp; try omega)).trans (by simp [go_sem]); have z01 : w3.frozen? ⟨w.heap.size, 1, none⟩ = false := (hb.frozen (p := ⟨w.heap.size, 1, none⟩) (by simp; try omega)).trans (by simp [go_sem]); have k02 : w3.cell? ⟨w.heap.size, 2, none⟩ = some (.int .i64 last) := (hb.cell (p := ⟨w.heap.size, 2, none⟩) (by simp; try omega)).trans (by simp [go_sem]); have z02 : w3.frozen? ⟨w.heap.size, 2, none⟩ = false := (hb.frozen (p := ⟨w.heap.size, 2, none⟩) (by simp; try omega)).trans (by simp [go_sem]); have k10 : w3.cell? ⟨w.heap.size + 1, 0, none⟩ = some (.int .i64 0) := (hb.cell (p := ⟨w.heap.size + 1, 0, none⟩) (by simp; try omega)).trans (by simp [go_sem]); have z10 : w3.frozen? ⟨w.heap.size + 1, 0, none⟩ = false := (hb.frozen (p := ⟨w.heap.size + 1, 0, none⟩) (by simp; try omega)).trans (by simp [go_sem]); have k11 : w3.cell? ⟨w.heap.size + 1, 1, none⟩ = some (.int .i64 0) := (hb.cell (p := ⟨w.heap.size + 1, 1, none⟩) (by simp; try omega)).trans (by simp [go_sem]); have z11 : w3.frozen? ⟨w.heap.size + 1, 1, none⟩ = false := (hb.frozen (p := ⟨w.heap.size + 1, 1, none⟩) (by simp; try omega)).trans (by simp [go_sem]); have k12 : w3.cell? ⟨w.heap.size + 1, 2, none⟩ = some (.int .i64 0) := (hb.cell (p := ⟨w.heap.size + 1, 2, none⟩) (by simp; try omega)).trans (by simp [go_sem]); have z12 : w3.frozen? ⟨w.heap.size + 1, 2, none⟩ = false := (hb.frozen (p := ⟨w.heap.size + 1, 2, none⟩) (by simp; try omega)).trans (by simp [go_sem]); have k20 : w3.cell? ⟨w.heap.size + 1 + 1, 0, none⟩ = some (.int .i64 0) := (hb.cell (p := ⟨w.heap.size + 1 + 1, 0, none⟩) (by simp; try omega)).trans (by simp [go_sem]); have z20 : w3.frozen? ⟨w.heap.size + 1 + 1, 0, none⟩ = false := (hb.frozen (p := ⟨w.heap.size + 1 + 1, 0, none⟩) (by simp; try omega)).trans (by simp [go_sem]); have k21 : w3.cell? ⟨w.heap.size + 1 + 1, 1, none⟩ = some (.int .i64 0) := (hb.cell (p := ⟨w.heap.size + 1 + 1, 1, none⟩) (by simp; try omega)).trans (by simp [go_sem]); have z21 : w3.frozen? ⟨w.heap.size + 1 + 1, 1, none⟩ = false := (hb.frozen (p := ⟨w.heap.size + 1 + 1, 1, none⟩) (by simp; try omega)).trans (by simp [go_sem]); have k22 : w3.cell? ⟨w.heap.size + 1 + 1, 2, none⟩ = some (.int .i64 0) := (hb.cell (p := ⟨w.heap.size + 1 + 1, 2, none⟩) (by simp; try omega)).trans (by simp [go_sem]); have z22 : w3.frozen? ⟨w.heap.size + 1 + 1, 2, none⟩ = false := (hb.frozen (p := ⟨w.heap.size + 1 + 1, 2, none⟩) (by simp; try omega)).trans (by simp [go_sem]); have HB3 := Lib.hid hb; clear hb)))
    have HF : Hid (Below w.heap.size w w3) := Lib.hid (Below.trans (by repeat (first | exact Below.refl _ _ | (refine Below.alloc ?_ (by first | omega | (simp; done) | (simp; omega)) _))) (HB3.out.mono (by simp; try omega)))
    go_loop [11, 12] (fun b d => ∃ k : Int, 1 ≤ k ∧ k ≤ 128 ∧ d = .int .i64 k ∧ b = .bool false) (fun _ d => (128 - intOf d).toNat)
    case atStart => exact ⟨1, by omega, by omega, rfl, rfl⟩
    case round =>
      obtain ⟨k, hk1, hk2, rfl, rfl⟩ := hrel
      by_cases hlt : k ≤ 127
      · go_wp2
        go_round
        case rel => exact ⟨k + 1, by omega, by omega, rfl, rfl⟩
        case measure => simp [intOf]; omega
      · have hk : k = 128 := by omega
        subst hk
        by_cases hml : mis < lim
        · have HI : Hid ((if mis < lim then mis + 1 else mis) = mis + 1) := Lib.hid (by rw [if_pos hml])
          go_wp2
          have j10 : (w3.setCell ⟨w.heap.size, 1, none⟩ (.int .i64 (mis + 1))).cell? ⟨w.heap.size + 1, 0, none⟩ = some (.int .i64 0) := by simp [go_sem, k10]
          have j20 : (w3.setCell ⟨w.heap.size, 1, none⟩ (.int .i64 (mis + 1))).cell? ⟨w.heap.size + 1 + 1, 0, none⟩ = some (.int .i64 0) := by simp [go_sem, k20]
          have j11 : (w3.setCell ⟨w.heap.size, 1, none⟩ (.int .i64 (mis + 1))).cell? ⟨w.heap.size + 1, 1, none⟩ = some (.int .i64 0) := by simp [go_sem, k11]
          have j21 : (w3.setCell ⟨w.heap.size, 1, none⟩ (.int .i64 (mis + 1))).cell? ⟨w.heap.size + 1 + 1, 1, none⟩ = some (.int .i64 0) := by simp [go_sem, k21]
          have j12 : (w3.setCell ⟨w.heap.size, 1, none⟩ (.int .i64 (mis + 1))).cell? ⟨w.heap.size + 1, 2, none⟩ = some (.int .i64 0) := by simp [go_sem, k12]
          have j22 : (w3.setCell ⟨w.heap.size, 1, none⟩ (.int .i64 (mis + 1))).cell? ⟨w.heap.size + 1 + 1, 2, none⟩ = some (.int .i64 0) := by simp [go_sem, k22]
          obtain ⟨W, hW, r0, r1, r2, r3, r4, r5, _, hbel⟩ := put33 (w := w3.setCell ⟨w.heap.size, 1, none⟩ (.int .i64 (mis + 1))) (g := w.heap.size + 1) (h := w.heap.size + 1 + 1) (by omega) j10 j11 j12 j20 j21 j22 (.int .i64 lim) (.int .i64 (mis + 1)) (.int .i64 last) (.int .i64 0) (.int .i64 0) (.int .i64 0)
          rw [hW]
          refine bodyPost_ret (v := .tuple #[.agg #[.int .i64 lim, .int .i64 (mis + 1), .int .i64 last], .agg #[.int .i64 0, .int .i64 0, .int .i64 0], .bool false]) (by simp [results, Try.results34, go_sem, r0, r1, r2, r3, r4, r5]) rfl (HQ.out _ _ ((HF.out.setCell (Nat.le_refl _) _).trans (hbel _ (by omega) (by omega))) (fun hc => absurd (HD.out.1 hc) (fun h => HE0.out h.1)) (by rw [HI.out]))
        · have HI : Hid ((if mis < lim then mis + 1 else mis) = mis) := Lib.hid (by rw [if_neg hml])
          go_wp2
          obtain ⟨W, hW, r0, r1, r2, r3, r4, r5, _, hbel⟩ := put33 (w := w3) (g := w.heap.size + 1) (h := w.heap.size + 1 + 1) (by omega) k10 k11 k12 k20 k21 k22 (.int .i64 lim) (.int .i64 mis) (.int .i64 last) (.int .i64 0) (.int .i64 0) (.int .i64 0)
          rw [hW]
          refine bodyPost_ret (v := .tuple #[.agg #[.int .i64 lim, .int .i64 mis, .int .i64 last], .agg #[.int .i64 0, .int .i64 0, .int .i64 0], .bool false]) (by simp [results, Try.results34, go_sem, r0, r1, r2, r3, r4, r5]) rfl (HQ.out _ _ (HF.out.trans (hbel _ (by omega) (by omega))) (fun hc => absurd (HD.out.1 hc) (fun h => HE0.out h.1)) (by rw [HI.out]))
end Go.Proofs.Ytdfgjfojneoljaa.u
