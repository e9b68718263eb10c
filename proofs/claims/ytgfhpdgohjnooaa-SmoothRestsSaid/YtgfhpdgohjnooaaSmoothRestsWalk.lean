/- The walk of the law SmoothRests: any window, any speeds, any place: it returns true, and what was in memory is as it was. -/
import Derived.Test.YtgfhpdgohjnooaaMAwake
import Derived.Test.YtgfhpdgohjnooaaMRow16
namespace Go.Proofs.Ytgfhpdgohjnooaa.smoothRests
open Go.ChangeShapes Go.WideShapes Go.ChangeAt Go.RowKit Go.Proofs.Ytgfhpdgohjnooaa.k Go.Proofs.Ytgfhpdgohjnooaa.mm Go.Proofs.Ytgfhpdgohjnooaa
set_option linter.unusedVariables false

theorem push_take {L : List Int} {p : Int} {q : Nat} (h : L.take q = List.replicate q p) (hq : q < L.length) : (p :: L.take (L.length - 1)).take (q + 1) = List.replicate (q + 1) p := by
  rw [List.take_succ_cons, List.take_take, List.replicate_succ, Nat.min_eq_left (by omega), h]
theorem rep_out {m : Nat} {p : Int} (h1 : 1 ≤ m) (h2 : m ≤ 16) (hp : inP p) : outW (List.replicate m p) = m * p := by
  rw [outW_yes (rep_right h1 h2 hp)]
  clear h1 h2
  induction m with
  | zero => simp
  | succ m ih => rw [List.replicate_succ, List.sum_cons, ih, Int.natCast_add, Int.add_mul]; simp; omega
theorem rep_rest {m : Nat} {p : Int} (h1 : 1 ≤ m) (h2 : m ≤ 16) (hp : inP p) : restB (List.replicate m p) = true := by
  refine decide_eq_true ⟨rep_right h1 h2 hp, fun x hx => ?_⟩
  obtain ⟨n, rfl⟩ : ∃ n, m = n + 1 := ⟨m - 1, by omega⟩
  rw [List.eq_of_mem_replicate hx]
  rfl
theorem rep_push {m : Nat} {p : Int} (h1 : 1 ≤ m) (h2 : m ≤ 16) (hp : inP p) : pushW (List.replicate m p) p = List.replicate m p := by
  rw [pushW_yes (rep_right h1 h2 hp) hp, List.length_replicate, List.take_replicate, Nat.min_eq_left (by omega)]
  obtain ⟨n, rfl⟩ : ∃ n, m = n + 1 := ⟨m - 1, by omega⟩
  rfl

theorem small_mul (q : Nat) (p : Int) (hq : q ≤ 16) (h1 : -2199023255552 ≤ p) (h2 : p ≤ 2199023255552) : IntKind.i64.wrap ((q : Int) * p) = (q : Int) * p := by
  have a : (q : Int) * p ≤ q * 2199023255552 := Int.mul_le_mul_of_nonneg_left h2 (by omega)
  have b : (q : Int) * -2199023255552 ≤ q * p := Int.mul_le_mul_of_nonneg_left h1 (by omega)
  rw [IntKind.wrap_i64]
  generalize (q : Int) * p = x at *
  omega
set_option maxHeartbeats 4000000 in
set_option maxRecDepth 100000 in
theorem walk (m f : Int) (a : Option Addr) (len cap : Nat) (zs : List Int) (pos : Int) (w : World) (u0 : (Lit.int .i64 m).wf = true) (u1 : (Lit.int .i64 f).wf = true) (u2 : IsRow .i16 w a len cap zs) (u3 : (Lit.int .i64 pos).wf = true) :
    Calls Try.prog 5 #[.int .i64 m, .int .i64 f, .slice a len cap, .int .i64 pos] w fun e w' => e = .returned (.bool true) ∧ Below w.heap.size w w' := by
  have HK := Lib.hid fun W => awake_any W
  have hm := k.wf64 u0
  have hlen := u2.len
  have HROW := Lib.hid u2
  clear u0 u1 u2 u3
  by_cases f1 : f < -1099511627776
  · go_enter Try.func5, Try.ntmps5
    go_wp2_with (go_at_call 8; ((with_reducible refine (HK.out _).mono ?_); rintro e w2 ⟨rfl, hb⟩; have H2 := Lib.hid hb; clear hb))
    go_ret
    exact ⟨rfl, H2.out⟩
  by_cases f2 : 1099511627776 < f
  · have hd : decide (f < -1099511627776) = false := decide_eq_false f1
    go_enter Try.func5, Try.ntmps5
    go_wp2_with (go_at_call 8; ((with_reducible refine (HK.out _).mono ?_); rintro e w2 ⟨rfl, hb⟩; have H2 := Lib.hid hb; clear hb))
    go_ret
    exact ⟨rfl, H2.out⟩
  have hd : decide (f < -1099511627776) = false := decide_eq_false f1
  have hd2 : decide (1099511627776 < f) = false := decide_eq_false f2
  by_cases hp : inP pos
  case neg =>
    have HP := Lib.hid fun W => place_no hp W
    clear hp
    go_enter Try.func5, Try.ntmps5
    go_wp2_with (first | (go_at_call 8; ((with_reducible refine (HK.out _).mono ?_); rintro e w2 ⟨rfl, hb⟩; have H2 := Lib.hid hb; clear hb)) | (go_at_call 10; ((with_reducible refine (HP.out _).mono ?_); rintro e w3 ⟨rfl, rfl⟩)))
    go_ret
    exact ⟨rfl, H2.out⟩
  case pos =>
    have HP := Lib.hid fun W => place_yes hp W
    by_cases hm1 : 1 ≤ m ∧ m ≤ 16
    case neg =>
      have HN := Lib.hid fun W => new_no (m := m) (p := f) (fun h => hm1 ⟨h.1, h.2.1⟩) W
      clear hp hm1
      go_enter Try.func5, Try.ntmps5
      go_wp2_with (first | (go_at_call 8; ((with_reducible refine (HK.out _).mono ?_); rintro e w2 ⟨rfl, hb⟩; have H2 := Lib.hid hb; clear hb)) | (go_at_call 10; ((with_reducible refine (HP.out _).mono ?_); rintro e w3 ⟨rfl, rfl⟩)) | (go_at_call 9; ((with_reducible refine (HN.out _).mono ?_); rintro e w4 ⟨A4, l4, c4, rfl, _, hb⟩; have H4 := Lib.hid (H2.out.trans (hb.mono H2.out.size)); clear hb)))
      go_ret
      exact ⟨rfl, H4.out.alloc H4.out.size _⟩
    case pos =>
      obtain ⟨m1, m2⟩ := hm1
      have hf : inP f := ⟨by omega, by omega⟩
      have HN := Lib.hid fun W => new_yes m1 m2 hf W
      have HQ := Lib.hid (rep_right (m := m.toNat) (p := f) (by omega) (by omega) hf)
      have HPP := Lib.hid hp
      clear hp hf
      go_enter Try.func5, Try.ntmps5
      go_wp2_with (first | (go_at_call 8; ((with_reducible refine (HK.out _).mono ?_); rintro e w2 ⟨rfl, hb⟩; have H2 := Lib.hid hb; clear hb)) | (go_at_call 10; ((with_reducible refine (HP.out _).mono ?_); rintro e w3 ⟨rfl, rfl⟩)) | (go_at_call 9; ((with_reducible refine (HN.out _).mono ?_); rintro e w4 ⟨A4, l4, c4, rfl, hW4, hb⟩; have W4 := Lib.hid hW4; have H4 := Lib.hid (H2.out.trans (hb.mono H2.out.size)); clear hW4 hb)))
      obtain ⟨x5, e5, v5, b5, z5⟩ := made w4 (.slice A4 l4 c4) 24
      rw [e5]
      have W5 := Lib.hid ((W4.out.below b5).more (B' := x5.heap.size) (by omega))
      have H5 := Lib.hid (H4.out.trans (b5.mono H4.out.size))
      have hg : w.heap.size ≤ w4.heap.size := H4.out.size
      obtain ⟨g, hgg⟩ : ∃ g, w4.heap.size = g := ⟨_, rfl⟩
      rw [hgg] at v5 hg ⊢
      have V5 := Lib.hid v5
      clear e5 b5 z5 v5 hgg
      go_loopw [1, 11] (fun p i wr => ∃ (q : Nat) (P : Int) (L : List Int) (A : Option Addr) (l c : Nat), q ≤ len ∧ q ≤ 300 ∧ i = .int .i64 q ∧ p = .int .i64 P ∧ (-1099511627776 - 32768 * (q : Int) ≤ P ∧ P ≤ 1099511627776 + 32768 * (q : Int)) ∧ RightW L ∧ L.length = m.toNat ∧ Win wr wr.heap.size A l c L ∧ Var wr g (.slice A l c) ∧ Below w.heap.size w wr) (fun _ i _ => len - (intOf i).toNat)
      case atStart => exact ⟨0, f, _, A4, l4, c4, Nat.zero_le _, by omega, rfl, rfl, ⟨by omega, by omega⟩, HQ.out, by simp, W5.out, V5.out, H5.out⟩
      case round =>
        obtain ⟨q, P, L, A, l, c, hq, hq3, rfl, rfl, ⟨hP1, hP2⟩, hr, hll, hW, hV, hB⟩ := hrel
        clear W4 W5 H4 H5 V5 HN HQ HK HP H2
        have HR := Lib.hid hr
        have HL := Lib.hid hll
        have HW := Lib.hid hW
        have HV := Lib.hid hV
        have HB := Lib.hid hB
        clear hr hll hW hV hB
        by_cases hlt : q < len ∧ q < 300
        · obtain ⟨hlt, hlt3⟩ := hlt
          obtain ⟨b, off, rfl, hbw, hrow⟩ := HROW.out.at (by omega)
          obtain ⟨x, _, hx, hcell⟩ := hrow q hlt
          have hck : wr.cell? ⟨b, off + q, none⟩ = some (.int .i16 x) := (HB.out.cell (p := ⟨b, off + q, none⟩) hbw).trans hcell
          have hcc := HV.out.cell
          have hff := HV.out.frozen 0
          have hi0 : (0 : Int) ≤ (q : Int) := by omega
          have hi1 : (q : Int) < (len : Int) := by omega
          have hi3 : (q : Int) < 300 := by omega
          have hgs := HV.out.lt
          have HPI := Lib.hid (show inP (P + x) from ⟨by omega, by omega⟩)
          clear hrow hcell
          go_wp2_with (go_at_call 15; ((refine (push_any L (P + x) (Nat.le_trans HR.out.2.1 (by decide)) HW.out (Nat.le_refl _)).mono ?_); rintro e w6 ⟨A6, l6, c6, rfl, hW6, hb⟩; rw [pushW_yes HR.out HPI.out] at hW6; have W6 := Lib.hid hW6; have V6 := Lib.hid (HV.out.under hb); have H6 := Lib.hid (HB.out.trans (hb.mono HB.out.size)); clear hW6 hb; clear hcc hff; have hcc := V6.out.cell; have hff := V6.out.frozen 0))
          obtain ⟨x7, e7, v7, z7, b7, _, k7⟩ := laid V6.out (.slice A6 l6 c6)
          have W7 := Lib.hid (k7 _ _ _ _ _ W6.out)
          rw [e7]
          have HX := Lib.hid (And.intro e7 (And.intro v7 (And.intro z7 (b7 w.heap.size hg))))
          clear e7 v7 z7 b7 k7 hcc hff hck
          go_roundw
          case rel => exact ⟨q + 1, P + x, _, A6, l6, c6, by omega, by omega, by go_num, rfl, ⟨by omega, by omega⟩, push_right HR.out HPI.out, (push_len HR.out).trans HL.out, by rw [HX.out.2.2.1]; exact W7.out, HX.out.2.1, H6.out.trans HX.out.2.2.2⟩
          case measure => simp [intOf]; omega
        · have hdd : (decide (q < len) = false) ∨ ((q : Int) < (len : Int) ∧ decide ((q : Int) < 300) = false) := by
            by_cases h : q < len
            · exact .inr ⟨by omega, decide_eq_false (by omega)⟩
            · exact .inl (decide_eq_false (by omega))
          have hmm : 0 ≤ m := by omega
          obtain ⟨M, hM⟩ : ∃ M : Nat, m = (M : Int) := ⟨m.toNat, by omega⟩
          subst hM
          have HR1 := Lib.hid (And.intro HR.out (show L.length = M by have := HL.out; omega))
          have HM := Lib.hid (show 1 ≤ M ∧ M ≤ 16 by omega)
          clear HR HL hlt hq hq3 hP1 hP2 m1 m2 hmm hm
          have hM0 : (M : Int) ≤ 16 := by have := HM.out; omega
          have H0 : Hid (L.take 0 = List.replicate 0 pos) := Lib.hid rfl
          rcases hdd with hdd | ⟨hdd0, hdd⟩
          all_goals
            go_wp2
            go_loopw [12] (fun i wr => ∃ (q : Nat) (L : List Int) (A : Option Addr) (l c : Nat), q ≤ M ∧ i = .int .i64 q ∧ RightW L ∧ L.length = M ∧ L.take q = List.replicate q pos ∧ Win wr wr.heap.size A l c L ∧ Var wr g (.slice A l c) ∧ Below w.heap.size w wr) (fun i _ => M - (intOf i).toNat)
            case atStart => exact ⟨0, L, A, l, c, Nat.zero_le _, rfl, HR1.out.1, HR1.out.2, H0.out, HW.out, HV.out, HB.out⟩
            case round =>
              clear HW HV HB H0 HR1
              obtain ⟨q2, L, A, l, c, hq, rfl, hr, hll, hT, hW, hV, hB⟩ := hrel
              have HR := Lib.hid hr
              have HL := Lib.hid hll
              have HT := Lib.hid hT
              have HW := Lib.hid hW
              have HV := Lib.hid hV
              have HB := Lib.hid hB
              clear hr hll hT hW hV hB
              have hcc := HV.out.cell
              have hff := HV.out.frozen 0
              have hgs := HV.out.lt
              by_cases hlt : q2 < M
              · have hi1 : (q2 : Int) < (M : Int) := by omega
                go_wp2_with (go_at_call 15; ((refine (push_any L pos (Nat.le_trans HR.out.2.1 (by decide)) HW.out (Nat.le_refl _)).mono ?_); rintro e w6 ⟨A6, l6, c6, rfl, hW6, hb⟩; rw [pushW_yes HR.out HPP.out] at hW6; have W6 := Lib.hid hW6; have V6 := Lib.hid (HV.out.under hb); have H6 := Lib.hid (HB.out.trans (hb.mono HB.out.size)); clear hW6 hb; clear hcc hff; have hcc := V6.out.cell; have hff := V6.out.frozen 0))
                obtain ⟨x7, e7, v7, z7, b7, _, k7⟩ := laid V6.out (.slice A6 l6 c6)
                have W7 := Lib.hid (k7 _ _ _ _ _ W6.out)
                rw [e7]
                have HX := Lib.hid (And.intro e7 (And.intro v7 (And.intro z7 (b7 w.heap.size hg))))
                clear e7 v7 z7 b7 k7 hcc hff
                go_roundw
                case rel => exact ⟨q2 + 1, _, A6, l6, c6, by omega, by go_num, push_right HR.out HPP.out, (push_len HR.out).trans HL.out, push_take HT.out (by have := HL.out; omega), by rw [HX.out.2.2.1]; exact W7.out, HX.out.2.1, H6.out.trans HX.out.2.2.2⟩
                case measure => simp [intOf]; omega
              · have hqe : q2 = M := by omega
                subst hqe
                have HE : Hid (L = List.replicate q2 pos) := Lib.hid (by have := HT.out; rwa [List.take_of_length_le (by have := HL.out; omega)] at this)
                have O := Lib.hid fun (W : World) (B : Nat) (h : Win W B A l c L) (hB : B ≤ W.heap.size) => ((congrArg outW HE.out).trans (rep_out HM.out.1 HM.out.2 HPP.out)) ▸ out_any L h hB
                have R := Lib.hid fun (W : World) (B : Nat) (h : Win W B A l c L) (hB : B ≤ W.heap.size) => ((congrArg restB HE.out).trans (rep_rest HM.out.1 HM.out.2 HPP.out)) ▸ rest_any L h hB
                have P := Lib.hid fun (W : World) (B : Nat) (h : Win W B A l c L) (hB : B ≤ W.heap.size) => (show pushW L pos = L by rw [HE.out]; exact rep_push HM.out.1 HM.out.2 HPP.out) ▸ push_any L pos (Nat.le_trans HR.out.2.1 (by decide)) h hB
                have SS := Lib.hid fun (W : World) (A' : Option Addr) (l' c' B B' : Nat) (h : Win W B A' l' c' L) (hB : B ≤ W.heap.size) (h' : Win W B' A l c L) (hB' : B' ≤ W.heap.size) => (sameB_self L) ▸ same_any L L h hB h' hB'
                have hpp := HPP.out
                have hmul : IntKind.i64.wrap ((q2 : Int) * pos) = (q2 : Int) * pos := by
                  have hq1 := HM.out
                  obtain ⟨hp1, hp2⟩ := hpp
                  exact small_mul q2 pos hq1.2 hp1 hp2
                clear hpp
                have WD := Lib.hid HW.out.drew
                have VD := Lib.hid HV.out.drew
                have BD := Lib.hid HB.out.drew
                have zD : wr.heap.size ≤ wr.drew.heap.size := Nat.le_refl _
                go_wp2
                go_region_held3 (fun w' => w'.cell? ⟨g, 0, none⟩ = some (.slice A l c)) (first | assumption | (simp [*]; done))
                  (first
                    | (go_at_call 11; ((refine (R.out _ _ WD.out zD).mono ?_); rintro e w6 ⟨rfl, hb⟩; have W6 := Lib.hid (WD.out.below (hb.mono zD)); have V6 := Lib.hid (VD.out.under hb); have H6 := Lib.hid (BD.out.trans (hb.mono BD.out.size)); have z6 := Nat.le_trans zD hb.size; clear hb; have hc6 := V6.out.cell))
                    | (go_at_call 17; ((refine (O.out _ _ W6.out z6).mono ?_); rintro e w7 ⟨rfl, hb⟩; have W7 := Lib.hid (W6.out.below (hb.mono z6)); have V7 := Lib.hid (V6.out.under hb); have H7 := Lib.hid (H6.out.trans (hb.mono H6.out.size)); have z7 := Nat.le_trans z6 hb.size; clear hb; have hc7 := V7.out.cell))
                    | (go_at_call 15; ((refine (P.out _ _ W7.out z7).mono ?_); rintro e w8 ⟨A8, l8, c8, rfl, hW8, hb⟩; have Y8 := Lib.hid hW8; have W8 := Lib.hid (W7.out.below (hb.mono z7)); have V8 := Lib.hid (V7.out.under hb); have H8 := Lib.hid (H7.out.trans (hb.mono H7.out.size)); have z8 := Nat.le_trans z7 hb.size; clear hb hW8; have hc8 := V8.out.cell))
                    | (go_at_call 14; ((refine (SS.out _ _ _ _ _ _ Y8.out (Nat.le_refl _) W8.out z8).mono ?_); rintro e w9 ⟨rfl, hb⟩; have V9 := Lib.hid (V8.out.under hb); have H9 := Lib.hid (H8.out.trans (hb.mono H8.out.size)); clear hb; have hc9 := V9.out.cell)))
                go_wp2
                go_ret
                exact ⟨rfl, H9.out⟩
end Go.Proofs.Ytgfhpdgohjnooaa.smoothRests
