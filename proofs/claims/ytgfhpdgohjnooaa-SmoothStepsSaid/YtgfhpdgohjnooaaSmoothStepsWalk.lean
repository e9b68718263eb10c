/- The walk of the law SmoothSteps: any window, any places: it returns true, and what was in memory is as it was. -/
import Derived.Test.YtgfhpdgohjnooaaMAwake
import Derived.Test.YtgfhpdgohjnooaaMRow64
import Derived.Test.YtgfhpdgohjnooaaMRows3
import Derived.Test.YtgfhpdgohjnooaaKOrd
namespace Go.Proofs.Ytgfhpdgohjnooaa.smoothSteps
open Go.ChangeShapes Go.WideShapes Go.ChangeAt Go.RowKit Go.Proofs.Ytgfhpdgohjnooaa.k Go.Proofs.Ytgfhpdgohjnooaa.mm Go.Proofs.Ytgfhpdgohjnooaa
set_option linter.unusedVariables false

theorem rest_all {L : List Int} (h : RightW L) : restB L = L.all fun z => z == L.getD 0 0 := by
  unfold restB
  rw [Bool.eq_iff_iff, decide_eq_true_iff, List.all_eq_true]
  exact ⟨fun h2 x hx => by rw [beq_iff_eq]; exact h2.2 x hx, fun h2 => ⟨h, fun x hx => beq_iff_eq.1 (h2 x hx)⟩⟩
theorem all_place {L : List Int} {d : Int} : (L.all fun z => placeB (z + d)) = true ↔ ∀ x ∈ L, inP (x + d) := by
  rw [List.all_eq_true]
  exact ⟨fun h x hx => of_decide_eq_true (h x hx), fun h x hx => placeB_yes (h x hx)⟩
theorem far_of {L : List Int} {d : Int} (h : RightW L) (hd : (L.all fun z => placeB (z + d)) = true) : -4398046511104 ≤ d ∧ d ≤ 4398046511104 := by
  have hm := getD_mem (L := L) (i := 0) h.1
  have h1 := all_place.1 hd _ hm
  have h2 := h.2.2 _ hm
  unfold inP at h1 h2
  omega
theorem shift_all {L : List Int} {d : Int} (h : RightW L) : shiftW L d = if (L.all fun z => placeB (z + d)) = true then L.map (· + d) else L := by
  unfold shiftW
  by_cases hd : ∀ x ∈ L, inP (x + d)
  · rw [if_pos ⟨h, hd⟩, if_pos (all_place.2 hd)]
  · rw [if_neg fun h2 => hd h2.2, if_neg fun h2 => hd (all_place.1 h2)]
theorem push_all {L : List Int} {p : Int} (h : RightW L) : pushW L p = if placeB p = true then p :: L.take (L.length - 1) else L := by
  unfold pushW
  by_cases hp : inP p
  · rw [if_pos ⟨h, hp⟩, if_pos (placeB_yes hp)]
  · rw [if_neg fun h2 => hp h2.2, if_neg (by rw [placeB_no hp]; simp)]
theorem push_not {L : List Int} {p : Int} (h : ¬ RightW L) : pushW L p = L := if_neg fun h2 => h h2.1
theorem shift_not {L : List Int} {d : Int} (h : ¬ RightW L) : shiftW L d = L := if_neg fun h2 => h h2.1
theorem rest_not {L : List Int} (h : ¬ RightW L) : restB L = false := decide_eq_false fun h2 => h h2.1
theorem rep_rest {m : Nat} {p : Int} (h1 : 1 ≤ m) (h2 : m ≤ 16) (hp : inP p) : restB (List.replicate m p) = true := by
  refine decide_eq_true ⟨rep_right h1 h2 hp, fun x hx => ?_⟩
  obtain ⟨n, rfl⟩ : ∃ n, m = n + 1 := ⟨m - 1, by omega⟩
  rw [List.eq_of_mem_replicate hx]
  rfl
theorem grown_size {w w' : World} {row : Option Nat} (h : w.grownBy w' row) : w.heap.size ≤ w'.heap.size := h.size
theorem _root_.Go.Proofs.Ytgfhpdgohjnooaa.mm.OwnI.lt_size {w : World} {V : Value} {base : Nat} {T : List Int} (h : OwnI w base V T) : ∀ b, V.ownBlock = some b → b < w.heap.size := fun b e => (World.ownsRow.lt h b e).2
theorem own_weaken {w : World} {b b' : Nat} {v : Value} {L : List Int} (h : OwnI w b v L) (hb : b' ≤ b) : OwnI w b' v L := by
  refine ⟨h.1, ?_⟩
  rcases h.2 with h | ⟨g, cap, cur, e, hg, h2⟩
  · exact .inl h
  · exact .inr ⟨g, cap, cur, e, Nat.le_trans hb hg, h2⟩
theorem own_fresh {w : World} {b : Nat} {v : Value} {L : List Int} (h : OwnI w b v L) : some w.heap.size ≠ v.ownBlock := fun e => by
  have := h.lt_size _ e.symm
  omega
theorem own_form {w : World} {base len : Nat} {v : Value} {L : List Int} (h : OwnI w base v L) (hl : L.length = len) : ∃ A c, v = .slice A len c ∧ Win w w.heap.size A len c L := by
  subst hl
  exact h.form
/-- what is known in the region that makes two copies, whatever has come up -/
def Known (w0 : World) (L : List Int) (a0 : Act) (listed : Array Bool) (a : Act) (w : World) : Prop :=
  ∃ (b0 b3 b4 b5 b8 b9 b10 b11 b12 b13 : Bool) (t88 t91 t92 t93 t96 t97 t13 t14 : Value) (g13 g14 : Nat),
    listed = #[b0, true, true, b3, b4, b5, true, true, b8, b9, b10, b11, b12, b13] ∧
    a = (((((((a0.put (some 88) t88).put (some 91) t91).put (some 92) t92).put (some 93) t93).put (some 96) t96).put (some 97) t97).put (some 13) t13).put (some 14) t14 ∧ Below w0.heap.size w0 w ∧
    (b0 = true → b3 = false → OwnI w w0.heap.size t88 []) ∧ (b3 = true → OwnI w w0.heap.size t91 L) ∧ (b4 = true → t92 = .agg #[t91]) ∧
    (b5 = true → b8 = false → OwnI w w0.heap.size t93 []) ∧ (b8 = true → OwnI w w0.heap.size t96 L) ∧ (b9 = true → t97 = .agg #[t96]) ∧
    (b10 = true → t13 = .pointer (some ⟨g13, 0, none⟩) ∧ w0.heap.size ≤ g13 ∧ VarS w g13 (bif b12 then t91 else .slice none 0 0)) ∧
    (b11 = true → t14 = .pointer (some ⟨g14, 0, none⟩) ∧ w0.heap.size ≤ g14 ∧ VarS w g14 (bif b13 then t96 else .slice none 0 0)) ∧
    (b10 = true → b11 = true → g13 ≠ g14) ∧
    (b0 = true → b3 = false → b5 = true → b8 = false → t88.ownBlock ≠ t93.ownBlock) ∧ (b3 = true → b5 = true → b8 = false → t91.ownBlock ≠ t93.ownBlock) ∧ (b3 = true → b8 = true → t91.ownBlock ≠ t96.ownBlock) ∧
    (b3 = true → b0 = true) ∧ (b4 = true → b3 = true) ∧ (b8 = true → b5 = true ∧ b3 = true) ∧ (b9 = true → b8 = true) ∧ (b12 = true → b10 = true ∧ b3 = true ∧ b4 = true ∧ b8 = true) ∧ (b13 = true → b11 = true ∧ b9 = true ∧ b12 = true)
set_option maxHeartbeats 4000000 in
set_option maxRecDepth 100000 in
theorem walk (m : Int) (a : Option Addr) (len cap : Nat) (zs : List Int) (p d : Int) (w : World) (u0 : (Lit.int .i64 m).wf = true) (u1 : IsRow .i64 w a len cap zs) (u2 : (Lit.int .i64 p).wf = true) (u3 : (Lit.int .i64 d).wf = true) :
    Calls Try.prog 3 #[.int .i64 m, .agg #[.slice a len cap], .int .i64 p, .int .i64 d] w fun e w' => e = .returned (.bool true) ∧ Below w.heap.size w w' := by
  have HK := Lib.hid fun W => awake_any W
  obtain ⟨d1, d2⟩ := k.wf64 u3
  obtain ⟨p1, p2⟩ := k.wf64 u2
  obtain ⟨m1, m2⟩ := k.wf64 u0
  obtain ⟨L, hL⟩ : ∃ L, zs.take len = L := ⟨_, rfl⟩
  have hw0 := u1.win
  rw [hL] at hw0
  have HW := Lib.hid hw0
  have hlen := hw0.len_le
  have b1 := Below.alloc (Below.refl w.heap.size w) (Nat.le_refl _) (.cells #[.slice a len cap] 24)
  have V1 := Lib.hid (VarS.new w (.slice a len cap))
  have W1 := Lib.hid ((HW.out.below b1).more b1.size)
  have B1 := Lib.hid b1
  clear u0 u1 u2 u3 hL hw0 b1
  by_cases h100 : 100 < len
  · have h100i : (100 : Int) < (len : Int) := by omega
    clear h100
    go_enter Try.func3, Try.ntmps3
    go_wp2_with (go_at_call 8; fail)
    refine (HK.out _).mono ?_
    rintro e w2 ⟨rfl, hb⟩
    have V2 := Lib.hid (V1.out.under hb)
    have B2 := Lib.hid (B1.out.trans (hb.mono B1.out.size))
    clear hb
    have hcc := V2.out.var.cell
    go_wp2
    go_ret
    exact ⟨rfl, B2.out⟩
  have h100i : (len : Int) ≤ 100 := by omega
  go_enter Try.func3, Try.ntmps3
  go_wp2_with (go_at_call 8; fail)
  refine (HK.out _).mono ?_
  rintro e w2 ⟨rfl, hb⟩
  have V2 := Lib.hid (V1.out.under hb)
  have W2 := Lib.hid ((W1.out.below hb).more hb.size)
  have B2 := Lib.hid (B1.out.trans (hb.mono B1.out.size))
  clear hb
  have hcc := V2.out.var.cell
  go_upto_region 5 with (fail)
  clear hcc
  go_cut [9, 10] from 26 to 31 (fun s9 s10 wx => ∃ (A4 : Option Addr) (l4 c4 g9 : Nat) (e : Int), s9 = .pointer (some ⟨g9, 0, none⟩) ∧ s10 = .int .i64 e ∧ VarS wx g9 (.slice A4 l4 c4) ∧
    ((1 ≤ m ∧ m ≤ 16 ∧ inP p ∧ e = 0 ∧ Win wx wx.heap.size A4 l4 c4 (List.replicate m.toNat p)) ∨ (¬ (1 ≤ m ∧ m ≤ 16 ∧ inP p) ∧ e = 1 ∧ l4 = 0)) ∧
    VarS wx w.heap.size (.slice a len cap) ∧ Win wx wx.heap.size a len cap L ∧ Below w.heap.size w wx)
  case first =>
    by_cases hok : 1 ≤ m ∧ m ≤ 16 ∧ inP p
    · have HN := Lib.hid fun W => new_yes hok.1 hok.2.1 hok.2.2 W
      have HOK := Lib.hid hok
      clear hok
      go_wp2_with (go_at_call 9; fail)
      refine (HN.out _).mono ?_
      rintro e w4 ⟨A4, l4, c4, rfl, hW4, hb⟩
      have b5 := Below.alloc (Below.refl w4.heap.size w4) (Nat.le_refl _) (.cells #[.slice A4 l4 c4] 24)
      have V5 := Lib.hid ((V2.out.under hb).under b5)
      have W5 := Lib.hid ((((W2.out.below hb).more hb.size).below b5).more b5.size)
      have Y5 := Lib.hid ((hW4.below b5).more b5.size)
      have B5 := Lib.hid ((B2.out.trans (hb.mono B2.out.size)).trans (b5.mono (B2.out.trans (hb.mono B2.out.size)).size))
      have X5 := Lib.hid (VarS.new w4 (.slice A4 l4 c4))
      clear hb hW4 b5
      go_wp2
      go_meet
      case rel => exact ⟨A4, l4, c4, _, 0, rfl, rfl, X5.out, .inl ⟨HOK.out.1, HOK.out.2.1, HOK.out.2.2, rfl, Y5.out⟩, V5.out, W5.out, B5.out⟩
    · have HN := Lib.hid fun W => new_no hok W
      have HOK := Lib.hid hok
      clear hok
      go_wp2_with (go_at_call 9; fail)
      refine (HN.out _).mono ?_
      rintro e w4 ⟨A4, l4, c4, rfl, hW4, hb⟩
      have hl4 := hW4.1
      have b5 := Below.alloc (Below.refl w4.heap.size w4) (Nat.le_refl _) (.cells #[.slice A4 l4 c4] 24)
      have V5 := Lib.hid ((V2.out.under hb).under b5)
      have W5 := Lib.hid ((((W2.out.below hb).more hb.size).below b5).more b5.size)
      have B5 := Lib.hid ((B2.out.trans (hb.mono B2.out.size)).trans (b5.mono (B2.out.trans (hb.mono B2.out.size)).size))
      have X5 := Lib.hid (VarS.new w4 (.slice A4 l4 c4))
      have HL4 := Lib.hid hl4.symm
      clear hb hW4 b5 hl4
      go_wp2
      go_meet
      case rel => exact ⟨A4, l4, c4, _, 1, rfl, rfl, X5.out, .inr ⟨HOK.out, rfl, HL4.out⟩, V5.out, W5.out, B5.out⟩
  case rest =>
    obtain ⟨A4, l4, c4, g9, e, rfl, rfl, hX, hD, hV, hW, hB⟩ := hcut
    clear V2 W2 B2 V1 W1 B1 HK
    have X2 := Lib.hid hX
    have D2 := Lib.hid hD
    have V2 := Lib.hid hV
    have W2 := Lib.hid hW
    have B2 := Lib.hid hB
    clear hX hD hV hW hB
    go_upto_region 6 with (fail)
    go_cut [11] from 32 to 41 (fun s11 wx => s11 = .bool (decide (1 ≤ m ∧ m ≤ 16 ∧ inP p)) ∧ wx = wc)
    case first =>
      by_cases h1 : 1 ≤ m
      · by_cases h2 : m ≤ 16
        · by_cases h3 : inP p
          · have HP := Lib.hid fun W => place_yes h3 W
            have HE := Lib.hid (show decide (1 ≤ m ∧ m ≤ 16 ∧ inP p) = true from decide_eq_true ⟨h1, h2, h3⟩)
            clear h3
            go_wp2_with (go_at_call 10; ((with_reducible refine (HP.out _).mono ?_); rintro e w6 ⟨rfl, rfl⟩))
            go_meet
            case rel => exact ⟨by rw [HE.out], rfl⟩
          · have HP := Lib.hid fun W => place_no h3 W
            have HE := Lib.hid (show decide (1 ≤ m ∧ m ≤ 16 ∧ inP p) = false from decide_eq_false fun h => h3 h.2.2)
            clear h3
            go_wp2_with (go_at_call 10; ((with_reducible refine (HP.out _).mono ?_); rintro e w6 ⟨rfl, rfl⟩))
            go_meet
            case rel => exact ⟨by rw [HE.out], rfl⟩
        · have HE := Lib.hid (show decide (1 ≤ m ∧ m ≤ 16 ∧ inP p) = false from decide_eq_false fun h => h2 h.2.1)
          have hd : decide (m ≤ 16) = false := decide_eq_false h2
          go_wp2
          go_meet
          case rel => exact ⟨by rw [HE.out], rfl⟩
      · have HE := Lib.hid (show decide (1 ≤ m ∧ m ≤ 16 ∧ inP p) = false from decide_eq_false fun h => h1 h.1)
        have hd : decide (1 ≤ m) = false := decide_eq_false h1
        go_wp2
        go_meet
        case rel => exact ⟨by rw [HE.out], rfl⟩
    case rest =>
      obtain ⟨rfl, rfl⟩ := hcut
      obtain ⟨okB, hokB⟩ : ∃ b, decide (1 ≤ m ∧ m ≤ 16 ∧ inP p) = b := ⟨_, rfl⟩
      rw [hokB]
      have HOKB := Lib.hid hokB
      clear hokB
      go_upto_region 7 with (fail)
      go_cut [82] from 42 to 82 (fun s82 wx => s82 = .bool false ∧ VarS wx w.heap.size (.slice a len cap) ∧ Win wx wx.heap.size a len cap L ∧ Below w.heap.size w wx)
      case first =>
        rcases D2.out with ⟨k1, k2, hp, rfl, hY⟩ | ⟨hok, rfl, rfl⟩
        · obtain ⟨M, rfl⟩ : ∃ M : Nat, m = (M : Int) := ⟨m.toNat, by omega⟩
          rw [show (M : Int).toNat = M from rfl] at hY
          have hl4 : M = l4 := by have := hY.1; rwa [List.length_replicate] at this
          subst hl4
          have RR := Lib.hid fun (W : World) (A : Option Addr) (l c : Nat) (h : Win W W.heap.size A l c (List.replicate M p)) => (rep_rest (m := M) (by omega) (by omega) hp) ▸ rest_any (List.replicate M p) h (Nat.le_refl _)
          have hM0 : 0 < M := by omega
          have hob := HOKB.out.symm.trans (decide_eq_true (show 1 ≤ (M : Int) ∧ (M : Int) ≤ 16 ∧ inP p from ⟨k1, k2, hp⟩))
          subst hob
          have Y2 := Lib.hid hY
          have hcx := X2.out.var.cell
          clear hY hp D2
          go_wp2_with (go_at_call 11; fail)
          refine (RR.out _ _ _ _ Y2.out).mono ?_
          rintro e w6 ⟨rfl, hb⟩
          have V6 := Lib.hid (V2.out.under hb)
          have W6 := Lib.hid ((W2.out.below hb).more hb.size)
          have X6 := Lib.hid (X2.out.under hb)
          have B6 := Lib.hid (B2.out.trans (hb.mono B2.out.size))
          obtain ⟨b8, o8, rfl, _, hc8⟩ := ((Y2.out.below hb).more hb.size).2.2.2.2 hM0
          have ce : w6.cell? ⟨b8, o8, none⟩ = some (.int .i64 p) := by
            have := hc8 0 hM0
            rw [List.getD_eq_getElem?_getD, List.getElem?_replicate, if_pos hM0] at this
            exact this
          clear hb hc8 hcx
          have hcx := X6.out.var.cell
          go_wp2
          go_meet
          case rel => exact ⟨rfl, V6.out, W6.out, B6.out⟩
        · have hob := HOKB.out.symm.trans (decide_eq_false hok)
          subst hob
          have hcx := X2.out.var.cell
          clear hok D2
          go_wp2
          go_meet
          case rel => exact ⟨rfl, V2.out, W2.out, B2.out⟩
      case rest =>
        obtain ⟨rfl, hV, hW, hB⟩ := hcut
        clear V2 W2 B2 X2 D2 HOKB
        have hll := hW.1
        have hbe := Below.alloc (Below.refl wc.heap.size wc) (Nat.le_refl _) (.cells #[] 2)
        have HOE := Lib.hid (OwnI.empty wc)
        have V3 := Lib.hid (hV.under hbe)
        have W3 := Lib.hid ((hW.below hbe).more hbe.size)
        have B3 := Lib.hid (hB.trans (hbe.mono hB.size))
        have Z3 := Lib.hid hbe.size
        have B2s := Lib.hid hB.size
        have HLL := Lib.hid hll
        have hcc := hV.var.cell
        have hzz := hV.lt
        clear hbe hV hW hB hll
        go_upto_region 10 with (at_builtin; refine wpList_append_ints _ rfl (.tmp 83) (.tmp 85) rfl wc.heap.size _ [] rfl HOE.out _ a len cap L rfl W3.out (by rw [HLL.out]; simp; omega) Z3.out ?_; intro v1 w1 hown1 hg1 hat1; have O1 := Lib.hid (show OwnI w1 wc.heap.size v1 L from hown1); have V4 := Lib.hid (V3.out.grown hg1 (own_ne HOE.out V3.out)); have B4 := Lib.hid (HOE.out.lays B3.out B2s.out (Nat.le_refl _) hg1); have Z4 := Lib.hid (grown_size hg1); clear hown1 hg1 hat1; obtain ⟨A1, c1, rfl, hw1⟩ := own_form O1.out HLL.out; clear hw1)
        have b5 := Below.alloc (Below.refl w1.heap.size w1) (Nat.le_refl _) (.cells #[.slice A1 len c1] 24)
        have V5 := Lib.hid (V4.out.under b5)
        have B5 := Lib.hid (B4.out.trans (b5.mono (Nat.le_trans B2s.out (Nat.le_trans Z3.out Z4.out))))
        have X5 := Lib.hid (VarS.new w1 (.slice A1 len c1))
        have O5 := Lib.hid (O1.out.under b5)
        have L5 := Lib.hid (O1.out.lt_size)
        have N5 := Lib.hid (show w.heap.size < w1.heap.size from V4.out.lt)
        have M5 := Lib.hid (show w.heap.size < wc.heap.size from hzz)
        have S5 := Lib.hid (show w1.heap.size < (w1.alloc (.cells #[.slice A1 len c1] 24)).heap.size by simp)
        obtain ⟨w5, e5⟩ : ∃ W, w1.alloc (.cells #[.slice A1 len c1] 24) = W := ⟨_, rfl⟩
        rw [e5] at V5 B5 X5 O5 S5 ⊢
        have W5 := Lib.hid (HW.out.below B5.out)
        have W5s := Lib.hid B5.out.size
        clear e5 b5 V3 W3 B3 Z3 V4 B4 Z4 HOE O1 hcc hzz
        refine wp_region_T (by kernel_rfl) (fun w' => World.cell? w' ⟨w.heap.size, 0, none⟩ = some (.slice a len cap)) [] V5.out.drew.var.cell (fun hHeld => ?_)
        refine wpAnyT_take (i := 1) (v := ?_) rfl (by kernel_rfl) (by kernel_rfl) (by kernel_rfl) (fun _ _ _ h => h) (Or.inl ⟨by rfl, ?_⟩) (by assumption) ?_
        rotate_left 1
        · intro w hSw; clear hSw; go_simp <;> (with_reducible rfl)
        try simp only [Act.put, List.setIfInBounds_toArray, List.set_cons_zero, List.set_cons_succ, List.getElem_toArray, List.getElem_cons_succ, List.getElem_cons_zero]
        refine wpAnyT_take (i := 2) (v := ?_) rfl (by kernel_rfl) (by kernel_rfl) (by kernel_rfl) (fun _ _ _ h => h) (Or.inl ⟨by rfl, ?_⟩) (by assumption) ?_
        rotate_left 1
        · intro w hSw; skip; go_simp <;> (with_reducible rfl)
        try simp only [Act.put, List.setIfInBounds_toArray, List.set_cons_zero, List.set_cons_succ, List.getElem_toArray, List.getElem_cons_succ, List.getElem_cons_zero]
        refine wpAnyT_take (i := 6) (v := ?_) rfl (by kernel_rfl) (by kernel_rfl) (by kernel_rfl) (fun _ _ _ h => h) (Or.inl ⟨by rfl, ?_⟩) (by assumption) ?_
        rotate_left 1
        · intro w hSw; clear hSw; go_simp <;> (with_reducible rfl)
        try simp only [Act.put, List.setIfInBounds_toArray, List.set_cons_zero, List.set_cons_succ, List.getElem_toArray, List.getElem_cons_succ, List.getElem_cons_zero]
        refine wpAnyT_take (i := 7) (v := ?_) rfl (by kernel_rfl) (by kernel_rfl) (by kernel_rfl) (fun _ _ _ h => h) (Or.inl ⟨by rfl, ?_⟩) (by assumption) ?_
        rotate_left 1
        · intro w hSw; skip; go_simp <;> (with_reducible rfl)
        try simp only [Act.put, List.setIfInBounds_toArray, List.set_cons_zero, List.set_cons_succ, List.getElem_toArray, List.getElem_cons_succ, List.getElem_cons_zero]
        refine wpAnyT_by (I := Known w5 L) (Nat.le_of_ble_eq_true (by kernel_rfl)) ?_ ?_ ?_ ?_ ?_
        · exact ⟨false, false, false, false, false, false, false, false, false, false, undef, undef, undef, undef, undef, undef, undef, undef, 0, 0, (by kernel_rfl), (by kernel_rfl), (Below.refl _ _).drew, (fun h => by cases h), (fun h => by cases h), (fun h => by cases h), (fun h => by cases h), (fun h => by cases h), (fun h => by cases h), (fun h => by cases h), (fun h => by cases h), (fun h => by cases h), (fun h => by cases h), (fun h => by cases h), (fun h => by cases h), (fun h => by cases h), (fun h => by cases h), (fun h => by cases h), (fun h => by cases h), (fun h => by cases h), (fun h => by cases h)⟩
        · rintro listed a' w' ⟨b0, b3, b4, b5, b8, b9, b10, b11, b12, b13, t88, t91, t92, t93, t96, t97, t13, t14, g13, g14, rfl, _⟩
          rfl
        · rintro listed a' w' ⟨b0, b3, b4, b5, b8, b9, b10, b11, b12, b13, t88, t91, t92, t93, t96, t97, t13, t14, g13, g14, _, _, hb, _⟩
          exact (V5.out.under hb).var.cell
        · rintro listed a' w' ⟨b0, b3, b4, b5, b8, b9, b10, b11, b12, b13, t88, t91, t92, t93, t96, t97, t13, t14, g13, g14, rfl, rfl, hb, f0, f3, f4, f5, f8, f9, f10, f11, hn, n05, n35, n38, k3, k4, k8, k9, k12, k13⟩ i hi
          obtain ⟨hlt, h0⟩ := ready_lt hi
          have hc : i = 0 ∨ i = 1 ∨ i = 2 ∨ i = 3 ∨ i = 4 ∨ i = 5 ∨ i = 6 ∨ i = 7 ∨ i = 8 ∨ i = 9 ∨ i = 10 ∨ i = 11 ∨ i = 12 ∨ i = 13 := by
            have : i < 14 := hlt
            omega
          rcases hc with rfl | rfl | rfl | rfl | rfl | rfl | rfl | rfl | rfl | rfl | rfl | rfl | rfl | rfl
          · have e0 : b0 = false := h0
            subst e0
            have e3 : b3 = false := by cases b3 with | false => rfl | true => exact absurd (k3 rfl) (by simp)
            subst e3
            have e4 : b4 = false := by cases b4 with | false => rfl | true => exact absurd (k4 rfl) (by simp)
            subst e4
            have e8 : b8 = false := by cases b8 with | false => rfl | true => exact absurd ((k8 rfl).2) (by simp)
            subst e8
            have e9 : b9 = false := by cases b9 with | false => rfl | true => exact absurd (k9 rfl) (by simp)
            subst e9
            have e12 : b12 = false := by cases b12 with | false => rfl | true => exact absurd ((k12 rfl).2.1) (by simp)
            subst e12
            have e13 : b13 = false := by cases b13 with | false => rfl | true => exact absurd ((k13 rfl).2.1) (by simp)
            subst e13
            have Ff0 := Lib.hid f0
            have Ff3 := Lib.hid f3
            have Ff4 := Lib.hid f4
            have Ff5 := Lib.hid f5
            have Ff8 := Lib.hid f8
            have Ff9 := Lib.hid f9
            have Ff10 := Lib.hid f10
            have Ff11 := Lib.hid f11
            have Fhn := Lib.hid hn
            have Fn05 := Lib.hid n05
            have Fn35 := Lib.hid n35
            have Fn38 := Lib.hid n38
            have Fk3 := Lib.hid k3
            have Fk4 := Lib.hid k4
            have Fk8 := Lib.hid k8
            have Fk9 := Lib.hid k9
            have Fk12 := Lib.hid k12
            have Fk13 := Lib.hid k13
            clear f0 f3 f4 f5 f8 f9 f10 f11 hn n05 n35 n38 k3 k4 k8 k9 k12 k13
            refine wpOp_shut rfl (fun K hK => ?_)
            try simp only [Act.put, List.setIfInBounds_toArray, List.set_cons_zero, List.set_cons_succ, List.getElem_toArray, List.getElem_cons_zero]
            go_simp
            have hb7 : Below w'.heap.size w' (w'.alloc (.cells #[] 2)) := (Below.refl _ _).alloc (Nat.le_refl _) _
            refine hK.out _ _ ⟨true, false, false, b5, false, false, b10, b11, false, false, (.slice (some ⟨w'.heap.size, 0, none⟩) 0 0), t91, t92, t93, t96, t97, t13, t14, g13, g14, (by kernel_rfl), (by kernel_rfl), hb.trans (hb7.mono hb.size), (fun _ _ => own_weaken (OwnI.empty w') hb.size), ((fun h => by cases h)), (Ff4.out), (fun x y => (Ff5.out x y).under hb7), (fun x => (Ff8.out x).under hb7), (Ff9.out), (fun x => ⟨(Ff10.out x).1, (Ff10.out x).2.1, (Ff10.out x).2.2.under hb7⟩), (fun x => ⟨(Ff11.out x).1, (Ff11.out x).2.1, (Ff11.out x).2.2.under hb7⟩), (Fhn.out), (fun _ _ x y => own_fresh (Ff5.out x y)), ((fun h => by cases h)), ((fun h => by cases h)), ((fun h => by cases h)), (Fk4.out), (Fk8.out), (Fk9.out), (Fk12.out), (Fk13.out)⟩
          · exact absurd h0 (by simp)
          · exact absurd h0 (by simp)
          · have e3 : b3 = false := h0
            subst e3
            have e0 : b0 = true := ready_dep hi rfl 0 rfl rfl
            subst e0
            have e4 : b4 = false := by cases b4 with | false => rfl | true => exact absurd (k4 rfl) (by simp)
            subst e4
            have e8 : b8 = false := by cases b8 with | false => rfl | true => exact absurd ((k8 rfl).2) (by simp)
            subst e8
            have e9 : b9 = false := by cases b9 with | false => rfl | true => exact absurd (k9 rfl) (by simp)
            subst e9
            have e12 : b12 = false := by cases b12 with | false => rfl | true => exact absurd ((k12 rfl).2.1) (by simp)
            subst e12
            have e13 : b13 = false := by cases b13 with | false => rfl | true => exact absurd ((k13 rfl).2.1) (by simp)
            subst e13
            have Ff0 := Lib.hid f0
            have Ff3 := Lib.hid f3
            have Ff4 := Lib.hid f4
            have Ff5 := Lib.hid f5
            have Ff8 := Lib.hid f8
            have Ff9 := Lib.hid f9
            have Ff10 := Lib.hid f10
            have Ff11 := Lib.hid f11
            have Fhn := Lib.hid hn
            have Fn05 := Lib.hid n05
            have Fn35 := Lib.hid n35
            have Fn38 := Lib.hid n38
            have Fk3 := Lib.hid k3
            have Fk4 := Lib.hid k4
            have Fk8 := Lib.hid k8
            have Fk9 := Lib.hid k9
            have Fk12 := Lib.hid k12
            have Fk13 := Lib.hid k13
            clear f0 f3 f4 f5 f8 f9 f10 f11 hn n05 n35 n38 k3 k4 k8 k9 k12 k13
            refine wpOp_shut rfl (fun K hK => ?_)
            refine step_append_ints w' (by kernel_rfl) (.tmp 88) (.tmp 90) (by kernel_rfl) w5.heap.size t88 [] (by kernel_rfl) (Ff0.out rfl rfl) _ a len cap L (by kernel_rfl) (W5.out.below (hb.mono W5s.out)) (by rw [HLL.out]; simp; omega) hb.size ?_
            intro v' w2 hown0 hg hat
            have hown : OwnI w2 w5.heap.size v' L := hown0
            have hbl := (Ff0.out rfl rfl).lays hb (Nat.le_refl _) (Nat.le_refl _) hg
            refine hK.out _ _ ⟨true, true, false, b5, false, false, b10, b11, false, false, t88, v', t92, t93, t96, t97, t13, t14, g13, g14, (by kernel_rfl), (by kernel_rfl), hbl, (fun _ h => by cases h), (fun _ => hown), ((fun h => by cases h)), (fun x y => (Ff5.out x y).kept hg (.inr (Ne.symm (Fn05.out rfl rfl x y)))), ((fun h => by cases h)), (Ff9.out), (fun x => ⟨(Ff10.out x).1, (Ff10.out x).2.1, (Ff10.out x).2.2.grown hg (own_ne (Ff0.out rfl rfl) (Ff10.out x).2.2)⟩), (fun x => ⟨(Ff11.out x).1, (Ff11.out x).2.1, (Ff11.out x).2.2.grown hg (own_ne (Ff0.out rfl rfl) (Ff11.out x).2.2)⟩), (Fhn.out), (fun _ h => by cases h), (fun _ x y => by rcases hat with e | e; (rw [e]; exact Fn05.out rfl rfl x y); (rw [e]; exact own_fresh (Ff5.out x y))), (fun _ h => by cases h), (fun _ => rfl), ((fun h => by cases h)), ((fun h => by cases h)), (Fk9.out), ((fun h => by cases h)), (Fk13.out)⟩
          · have e4 : b4 = false := h0
            subst e4
            have e3 : b3 = true := ready_dep hi rfl 0 rfl rfl
            subst e3
            have e12 : b12 = false := by cases b12 with | false => rfl | true => exact absurd ((k12 rfl).2.2.1) (by simp)
            subst e12
            have e13 : b13 = false := by cases b13 with | false => rfl | true => exact absurd ((k13 rfl).2.2) (by simp)
            subst e13
            obtain ⟨A7, c7, r3, _⟩ := own_form (f3 rfl) HLL.out
            subst r3
            have Ff0 := Lib.hid f0
            have Ff3 := Lib.hid f3
            have Ff4 := Lib.hid f4
            have Ff5 := Lib.hid f5
            have Ff8 := Lib.hid f8
            have Ff9 := Lib.hid f9
            have Ff10 := Lib.hid f10
            have Ff11 := Lib.hid f11
            have Fhn := Lib.hid hn
            have Fn05 := Lib.hid n05
            have Fn35 := Lib.hid n35
            have Fn38 := Lib.hid n38
            have Fk3 := Lib.hid k3
            have Fk4 := Lib.hid k4
            have Fk8 := Lib.hid k8
            have Fk9 := Lib.hid k9
            have Fk12 := Lib.hid k12
            have Fk13 := Lib.hid k13
            clear f0 f3 f4 f5 f8 f9 f10 f11 hn n05 n35 n38 k3 k4 k8 k9 k12 k13
            refine wpOp_shut rfl (fun K hK => ?_)
            try simp only [Act.put, List.setIfInBounds_toArray, List.set_cons_zero, List.set_cons_succ, List.getElem_toArray, List.getElem_cons_succ, List.getElem_cons_zero]
            go_simp
            refine hK.out _ _ ⟨b0, true, true, b5, b8, b9, b10, b11, false, false, t88, (.slice A7 len c7), (.agg #[.slice A7 len c7]), t93, t96, t97, t13, t14, g13, g14, (by kernel_rfl), (by kernel_rfl), hb, (Ff0.out), (Ff3.out), (fun _ => rfl), (Ff5.out), (Ff8.out), (Ff9.out), (Ff10.out), (Ff11.out), (Fhn.out), (Fn05.out), (Fn35.out), (Fn38.out), (Fk3.out), (fun _ => rfl), (Fk8.out), (Fk9.out), ((fun h => by cases h)), (Fk13.out)⟩
          · have e5 : b5 = false := h0
            subst e5
            have e8 : b8 = false := by cases b8 with | false => rfl | true => exact absurd ((k8 rfl).1) (by simp)
            subst e8
            have e9 : b9 = false := by cases b9 with | false => rfl | true => exact absurd (k9 rfl) (by simp)
            subst e9
            have e12 : b12 = false := by cases b12 with | false => rfl | true => exact absurd ((k12 rfl).2.2.2) (by simp)
            subst e12
            have e13 : b13 = false := by cases b13 with | false => rfl | true => exact absurd ((k13 rfl).2.1) (by simp)
            subst e13
            have Ff0 := Lib.hid f0
            have Ff3 := Lib.hid f3
            have Ff4 := Lib.hid f4
            have Ff5 := Lib.hid f5
            have Ff8 := Lib.hid f8
            have Ff9 := Lib.hid f9
            have Ff10 := Lib.hid f10
            have Ff11 := Lib.hid f11
            have Fhn := Lib.hid hn
            have Fn05 := Lib.hid n05
            have Fn35 := Lib.hid n35
            have Fn38 := Lib.hid n38
            have Fk3 := Lib.hid k3
            have Fk4 := Lib.hid k4
            have Fk8 := Lib.hid k8
            have Fk9 := Lib.hid k9
            have Fk12 := Lib.hid k12
            have Fk13 := Lib.hid k13
            clear f0 f3 f4 f5 f8 f9 f10 f11 hn n05 n35 n38 k3 k4 k8 k9 k12 k13
            refine wpOp_shut rfl (fun K hK => ?_)
            try simp only [Act.put, List.setIfInBounds_toArray, List.set_cons_zero, List.set_cons_succ, List.getElem_toArray, List.getElem_cons_succ, List.getElem_cons_zero]
            go_simp
            have hb7 : Below w'.heap.size w' (w'.alloc (.cells #[] 2)) := (Below.refl _ _).alloc (Nat.le_refl _) _
            refine hK.out _ _ ⟨b0, b3, b4, true, false, false, b10, b11, false, false, t88, t91, t92, (.slice (some ⟨w'.heap.size, 0, none⟩) 0 0), t96, t97, t13, t14, g13, g14, (by kernel_rfl), (by kernel_rfl), hb.trans (hb7.mono hb.size), (fun x y => (Ff0.out x y).under hb7), (fun x => (Ff3.out x).under hb7), (Ff4.out), (fun _ _ => own_weaken (OwnI.empty w') hb.size), (fun x => (Ff8.out x).under hb7), (Ff9.out), (fun x => ⟨(Ff10.out x).1, (Ff10.out x).2.1, (Ff10.out x).2.2.under hb7⟩), (fun x => ⟨(Ff11.out x).1, (Ff11.out x).2.1, (Ff11.out x).2.2.under hb7⟩), (Fhn.out), (fun x y _ _ => (own_fresh (Ff0.out x y)).symm), (fun x _ _ => (own_fresh (Ff3.out x)).symm), (fun _ h => by cases h), (Fk3.out), (Fk4.out), ((fun h => by cases h)), (Fk9.out), (Fk12.out), (Fk13.out)⟩
          · exact absurd h0 (by simp)
          · exact absurd h0 (by simp)
          · have e8 : b8 = false := h0
            subst e8
            have e5 : b5 = true := ready_dep hi rfl 0 rfl rfl
            subst e5
            have e3 : b3 = true := ready_dep hi rfl 2 rfl rfl
            subst e3
            have e9 : b9 = false := by cases b9 with | false => rfl | true => exact absurd (k9 rfl) (by simp)
            subst e9
            have e12 : b12 = false := by cases b12 with | false => rfl | true => exact absurd ((k12 rfl).2.2.2) (by simp)
            subst e12
            have e13 : b13 = false := by cases b13 with | false => rfl | true => exact absurd ((k13 rfl).2.1) (by simp)
            subst e13
            have Ff0 := Lib.hid f0
            have Ff3 := Lib.hid f3
            have Ff4 := Lib.hid f4
            have Ff5 := Lib.hid f5
            have Ff8 := Lib.hid f8
            have Ff9 := Lib.hid f9
            have Ff10 := Lib.hid f10
            have Ff11 := Lib.hid f11
            have Fhn := Lib.hid hn
            have Fn05 := Lib.hid n05
            have Fn35 := Lib.hid n35
            have Fn38 := Lib.hid n38
            have Fk3 := Lib.hid k3
            have Fk4 := Lib.hid k4
            have Fk8 := Lib.hid k8
            have Fk9 := Lib.hid k9
            have Fk12 := Lib.hid k12
            have Fk13 := Lib.hid k13
            clear f0 f3 f4 f5 f8 f9 f10 f11 hn n05 n35 n38 k3 k4 k8 k9 k12 k13
            refine wpOp_shut rfl (fun K hK => ?_)
            refine step_append_ints w' (by kernel_rfl) (.tmp 93) (.tmp 95) (by kernel_rfl) w5.heap.size t93 [] (by kernel_rfl) (Ff5.out rfl rfl) _ a len cap L (by kernel_rfl) (W5.out.below (hb.mono W5s.out)) (by rw [HLL.out]; simp; omega) hb.size ?_
            intro v' w2 hown0 hg hat
            have hown : OwnI w2 w5.heap.size v' L := hown0
            have hbl := (Ff5.out rfl rfl).lays hb (Nat.le_refl _) (Nat.le_refl _) hg
            refine hK.out _ _ ⟨b0, true, b4, true, true, false, b10, b11, false, false, t88, t91, t92, t93, v', t97, t13, t14, g13, g14, (by kernel_rfl), (by kernel_rfl), hbl, (fun _ h => by cases h), (fun _ => (Ff3.out rfl).kept hg (.inr (Fn35.out rfl rfl rfl))), (Ff4.out), (fun _ h => by cases h), (fun _ => hown), ((fun h => by cases h)), (fun x => ⟨(Ff10.out x).1, (Ff10.out x).2.1, (Ff10.out x).2.2.grown hg (own_ne (Ff5.out rfl rfl) (Ff10.out x).2.2)⟩), (fun x => ⟨(Ff11.out x).1, (Ff11.out x).2.1, (Ff11.out x).2.2.grown hg (own_ne (Ff5.out rfl rfl) (Ff11.out x).2.2)⟩), (Fhn.out), (fun _ h => by cases h), (fun _ _ h => by cases h), (fun _ _ => by rcases hat with e | e; (rw [e]; exact Fn35.out rfl rfl rfl); (rw [e]; exact (own_fresh (Ff3.out rfl)).symm)), (Fk3.out), (Fk4.out), (fun _ => ⟨rfl, rfl⟩), ((fun h => by cases h)), ((fun h => by cases h)), (Fk13.out)⟩
          · have e9 : b9 = false := h0
            subst e9
            have e8 : b8 = true := ready_dep hi rfl 0 rfl rfl
            subst e8
            have e13 : b13 = false := by cases b13 with | false => rfl | true => exact absurd ((k13 rfl).2.1) (by simp)
            subst e13
            obtain ⟨A8, c8, r8, _⟩ := own_form (f8 rfl) HLL.out
            subst r8
            have Ff0 := Lib.hid f0
            have Ff3 := Lib.hid f3
            have Ff4 := Lib.hid f4
            have Ff5 := Lib.hid f5
            have Ff8 := Lib.hid f8
            have Ff9 := Lib.hid f9
            have Ff10 := Lib.hid f10
            have Ff11 := Lib.hid f11
            have Fhn := Lib.hid hn
            have Fn05 := Lib.hid n05
            have Fn35 := Lib.hid n35
            have Fn38 := Lib.hid n38
            have Fk3 := Lib.hid k3
            have Fk4 := Lib.hid k4
            have Fk8 := Lib.hid k8
            have Fk9 := Lib.hid k9
            have Fk12 := Lib.hid k12
            have Fk13 := Lib.hid k13
            clear f0 f3 f4 f5 f8 f9 f10 f11 hn n05 n35 n38 k3 k4 k8 k9 k12 k13
            refine wpOp_shut rfl (fun K hK => ?_)
            try simp only [Act.put, List.setIfInBounds_toArray, List.set_cons_zero, List.set_cons_succ, List.getElem_toArray, List.getElem_cons_succ, List.getElem_cons_zero]
            go_simp
            refine hK.out _ _ ⟨b0, b3, b4, b5, true, true, b10, b11, b12, false, t88, t91, t92, t93, (.slice A8 len c8), (.agg #[.slice A8 len c8]), t13, t14, g13, g14, (by kernel_rfl), (by kernel_rfl), hb, (Ff0.out), (Ff3.out), (Ff4.out), (Ff5.out), (Ff8.out), (fun _ => rfl), (Ff10.out), (Ff11.out), (Fhn.out), (Fn05.out), (Fn35.out), (Fn38.out), (Fk3.out), (Fk4.out), (Fk8.out), (fun _ => rfl), (Fk12.out), ((fun h => by cases h))⟩
          · have e10 : b10 = false := h0
            subst e10
            have e12 : b12 = false := by cases b12 with | false => rfl | true => exact absurd ((k12 rfl).1) (by simp)
            subst e12
            have e13 : b13 = false := by cases b13 with | false => rfl | true => exact absurd ((k13 rfl).2.2) (by simp)
            subst e13
            have Ff0 := Lib.hid f0
            have Ff3 := Lib.hid f3
            have Ff4 := Lib.hid f4
            have Ff5 := Lib.hid f5
            have Ff8 := Lib.hid f8
            have Ff9 := Lib.hid f9
            have Ff10 := Lib.hid f10
            have Ff11 := Lib.hid f11
            have Fhn := Lib.hid hn
            have Fn05 := Lib.hid n05
            have Fn35 := Lib.hid n35
            have Fn38 := Lib.hid n38
            have Fk3 := Lib.hid k3
            have Fk4 := Lib.hid k4
            have Fk8 := Lib.hid k8
            have Fk9 := Lib.hid k9
            have Fk12 := Lib.hid k12
            have Fk13 := Lib.hid k13
            clear f0 f3 f4 f5 f8 f9 f10 f11 hn n05 n35 n38 k3 k4 k8 k9 k12 k13
            refine wpOp_shut rfl (fun K hK => ?_)
            try simp only [Act.put, List.setIfInBounds_toArray, List.set_cons_zero, List.set_cons_succ, List.getElem_toArray, List.getElem_cons_succ, List.getElem_cons_zero]
            go_simp
            have hb7 : Below w'.heap.size w' (w'.alloc (.cells #[.slice none 0 0] 24)) := (Below.refl _ _).alloc (Nat.le_refl _) _
            refine hK.out _ _ ⟨b0, b3, b4, b5, b8, b9, true, b11, false, false, t88, t91, t92, t93, t96, t97, (.pointer (some ⟨w'.heap.size, 0, none⟩)), t14, w'.heap.size, g14, (by kernel_rfl), (by kernel_rfl), hb.trans (hb7.mono hb.size), (fun x y => (Ff0.out x y).under hb7), (fun x => (Ff3.out x).under hb7), (Ff4.out), (fun x y => (Ff5.out x y).under hb7), (fun x => (Ff8.out x).under hb7), (Ff9.out), (fun _ => ⟨rfl, hb.size, VarS.new _ _⟩), (fun x => ⟨(Ff11.out x).1, (Ff11.out x).2.1, (Ff11.out x).2.2.under hb7⟩), (fun _ h => Ne.symm (Nat.ne_of_lt (Ff11.out h).2.2.lt)), (Fn05.out), (Fn35.out), (Fn38.out), (Fk3.out), (Fk4.out), (Fk8.out), (Fk9.out), ((fun h => by cases h)), (Fk13.out)⟩
          · have e11 : b11 = false := h0
            subst e11
            have e13 : b13 = false := by cases b13 with | false => rfl | true => exact absurd ((k13 rfl).1) (by simp)
            subst e13
            have Ff0 := Lib.hid f0
            have Ff3 := Lib.hid f3
            have Ff4 := Lib.hid f4
            have Ff5 := Lib.hid f5
            have Ff8 := Lib.hid f8
            have Ff9 := Lib.hid f9
            have Ff10 := Lib.hid f10
            have Ff11 := Lib.hid f11
            have Fhn := Lib.hid hn
            have Fn05 := Lib.hid n05
            have Fn35 := Lib.hid n35
            have Fn38 := Lib.hid n38
            have Fk3 := Lib.hid k3
            have Fk4 := Lib.hid k4
            have Fk8 := Lib.hid k8
            have Fk9 := Lib.hid k9
            have Fk12 := Lib.hid k12
            have Fk13 := Lib.hid k13
            clear f0 f3 f4 f5 f8 f9 f10 f11 hn n05 n35 n38 k3 k4 k8 k9 k12 k13
            refine wpOp_shut rfl (fun K hK => ?_)
            try simp only [Act.put, List.setIfInBounds_toArray, List.set_cons_zero, List.set_cons_succ, List.getElem_toArray, List.getElem_cons_succ, List.getElem_cons_zero]
            go_simp
            have hb7 : Below w'.heap.size w' (w'.alloc (.cells #[.slice none 0 0] 24)) := (Below.refl _ _).alloc (Nat.le_refl _) _
            refine hK.out _ _ ⟨b0, b3, b4, b5, b8, b9, b10, true, b12, false, t88, t91, t92, t93, t96, t97, t13, (.pointer (some ⟨w'.heap.size, 0, none⟩)), g13, w'.heap.size, (by kernel_rfl), (by kernel_rfl), hb.trans (hb7.mono hb.size), (fun x y => (Ff0.out x y).under hb7), (fun x => (Ff3.out x).under hb7), (Ff4.out), (fun x y => (Ff5.out x y).under hb7), (fun x => (Ff8.out x).under hb7), (Ff9.out), (fun x => ⟨(Ff10.out x).1, (Ff10.out x).2.1, (Ff10.out x).2.2.under hb7⟩), (fun _ => ⟨rfl, hb.size, VarS.new _ _⟩), (fun h _ => Nat.ne_of_lt (Ff10.out h).2.2.lt), (Fn05.out), (Fn35.out), (Fn38.out), (Fk3.out), (Fk4.out), (Fk8.out), (Fk9.out), (Fk12.out), ((fun h => by cases h))⟩
          · have e12 : b12 = false := h0
            subst e12
            have e13 : b13 = false := by cases b13 with | false => rfl | true => exact absurd ((k13 rfl).2.2) (by simp)
            subst e13
            have e10 : b10 = true := ready_dep hi rfl 0 rfl rfl
            subst e10
            have e4 : b4 = true := ready_dep hi rfl 1 rfl rfl
            subst e4
            have e8 : b8 = true := ready_dep hi rfl 2 rfl rfl
            subst e8
            have e3 := k4 rfl
            subst e3
            have r4 := f4 rfl
            subst r4
            obtain ⟨A7, c7, r3, _⟩ := own_form (f3 rfl) HLL.out
            subst r3
            obtain ⟨r10, i10, v10⟩ := f10 rfl
            subst r10
            dsimp only [cond_false] at v10
            have hc9 := v10.var.cell
            have hf9 := v10.var.frozen 0
            have Ff0 := Lib.hid f0
            have Ff3 := Lib.hid f3
            have Ff4 := Lib.hid f4
            have Ff5 := Lib.hid f5
            have Ff8 := Lib.hid f8
            have Ff9 := Lib.hid f9
            have Ff10 := Lib.hid f10
            have Ff11 := Lib.hid f11
            have Fhn := Lib.hid hn
            have Fn05 := Lib.hid n05
            have Fn35 := Lib.hid n35
            have Fn38 := Lib.hid n38
            have Fk3 := Lib.hid k3
            have Fk4 := Lib.hid k4
            have Fk8 := Lib.hid k8
            have Fk9 := Lib.hid k9
            have Fk12 := Lib.hid k12
            have Fk13 := Lib.hid k13
            clear f0 f3 f4 f5 f8 f9 f10 f11 hn n05 n35 n38 k3 k4 k8 k9 k12 k13
            refine wpOp_shut rfl (fun K hK => ?_)
            try simp only [Act.put, List.setIfInBounds_toArray, List.set_cons_zero, List.set_cons_succ, List.getElem_toArray, List.getElem_cons_succ, List.getElem_cons_zero]
            go_simp
            refine hK.out _ _ ⟨b0, true, true, b5, true, b9, true, b11, true, false, t88, (.slice A7 len c7), (.agg #[.slice A7 len c7]), t93, t96, t97, (.pointer (some ⟨g13, 0, none⟩)), t14, g13, g14, (by kernel_rfl), (by kernel_rfl), hb.setCell i10 _, (fun _ h => by cases h), (fun _ => (Ff3.out rfl).store v10 (.slice A7 len c7)), (fun _ => rfl), (fun _ h => by cases h), (fun _ => (Ff8.out rfl).store v10 (.slice A7 len c7)), (Ff9.out), (fun _ => ⟨rfl, i10, v10.set _⟩), (fun x => ⟨(Ff11.out x).1, (Ff11.out x).2.1, (Ff11.out x).2.2.aside (p := ⟨g13, 0, none⟩) (Ne.symm (Fhn.out rfl x)) _⟩), (Fhn.out), (fun _ h => by cases h), (fun _ _ h => by cases h), (Fn38.out), (Fk3.out), (Fk4.out), (Fk8.out), (Fk9.out), (fun _ => ⟨rfl, rfl, rfl, rfl⟩), ((fun h => by cases h))⟩
          · have e13 : b13 = false := h0
            subst e13
            have e11 : b11 = true := ready_dep hi rfl 0 rfl rfl
            subst e11
            have e9 : b9 = true := ready_dep hi rfl 1 rfl rfl
            subst e9
            have e12 : b12 = true := ready_dep hi rfl 2 rfl rfl
            subst e12
            obtain ⟨q1, q2, q3, q4⟩ := k12 rfl
            subst q1 q2 q3 q4
            have r9 := f9 rfl
            subst r9
            obtain ⟨A8, c8, r8, _⟩ := own_form (f8 rfl) HLL.out
            subst r8
            obtain ⟨r11, i11, v11⟩ := f11 rfl
            subst r11
            dsimp only [cond_false] at v11
            have hc9 := v11.var.cell
            have hf9 := v11.var.frozen 0
            have Ff0 := Lib.hid f0
            have Ff3 := Lib.hid f3
            have Ff4 := Lib.hid f4
            have Ff5 := Lib.hid f5
            have Ff8 := Lib.hid f8
            have Ff9 := Lib.hid f9
            have Ff10 := Lib.hid f10
            have Ff11 := Lib.hid f11
            have Fhn := Lib.hid hn
            have Fn05 := Lib.hid n05
            have Fn35 := Lib.hid n35
            have Fn38 := Lib.hid n38
            have Fk3 := Lib.hid k3
            have Fk4 := Lib.hid k4
            have Fk8 := Lib.hid k8
            have Fk9 := Lib.hid k9
            have Fk12 := Lib.hid k12
            have Fk13 := Lib.hid k13
            clear f0 f3 f4 f5 f8 f9 f10 f11 hn n05 n35 n38 k3 k4 k8 k9 k12 k13
            refine wpOp_shut rfl (fun K hK => ?_)
            try simp only [Act.put, List.setIfInBounds_toArray, List.set_cons_zero, List.set_cons_succ, List.getElem_toArray, List.getElem_cons_succ, List.getElem_cons_zero]
            go_simp
            refine hK.out _ _ ⟨b0, true, true, b5, true, true, true, true, true, true, t88, t91, t92, t93, (.slice A8 len c8), (.agg #[.slice A8 len c8]), t13, (.pointer (some ⟨g14, 0, none⟩)), g13, g14, (by kernel_rfl), (by kernel_rfl), hb.setCell i11 _, (fun _ h => by cases h), (fun _ => (Ff3.out rfl).store v11 (.slice A8 len c8)), (Ff4.out), (fun _ h => by cases h), (fun _ => (Ff8.out rfl).store v11 (.slice A8 len c8)), (fun _ => rfl), (fun _ => ⟨(Ff10.out rfl).1, (Ff10.out rfl).2.1, (Ff10.out rfl).2.2.aside (p := ⟨g14, 0, none⟩) (Fhn.out rfl rfl) _⟩), (fun _ => ⟨rfl, i11, v11.set _⟩), (Fhn.out), (fun _ h => by cases h), (fun _ _ h => by cases h), (Fn38.out), (Fk3.out), (Fk4.out), (Fk8.out), (Fk9.out), (Fk12.out), (fun _ => ⟨rfl, rfl, rfl⟩)⟩
        · rintro listed a' w' ⟨b0, b3, b4, b5, b8, b9, b10, b11, b12, b13, t88, t91, t92, t93, t96, t97, t13, t14, g13, g14, rfl, rfl, hb, f0, f3, f4, f5, f8, f9, f10, f11, hn, n05, n35, n38, k3, k4, k8, k9, k12, k13⟩ hr
          have e0 : b0 = true := ready_end hr (i := 0) rfl (by kernel_rfl)
          subst e0
          have e3 : b3 = true := ready_end hr (i := 3) rfl (by kernel_rfl)
          subst e3
          have e4 : b4 = true := ready_end hr (i := 4) rfl (by kernel_rfl)
          subst e4
          have e5 : b5 = true := ready_end hr (i := 5) rfl (by kernel_rfl)
          subst e5
          have e8 : b8 = true := ready_end hr (i := 8) rfl (by kernel_rfl)
          subst e8
          have e10 : b10 = true := ready_end hr (i := 10) rfl (by kernel_rfl)
          subst e10
          have e11 : b11 = true := ready_end hr (i := 11) rfl (by kernel_rfl)
          subst e11
          have e12 : b12 = true := ready_end hr (i := 12) rfl (by kernel_rfl)
          subst e12
          have e9 : b9 = true := ready_end hr (i := 9) rfl (by kernel_rfl)
          subst e9
          have e13 : b13 = true := ready_end hr (i := 13) rfl (by kernel_rfl)
          subst e13
          obtain ⟨A7, c7, r3, _⟩ := own_form (f3 rfl) HLL.out
          subst r3
          obtain ⟨A8, c8, r8, _⟩ := own_form (f8 rfl) HLL.out
          subst r8
          obtain ⟨r10, i10, v10⟩ := f10 rfl
          subst r10
          obtain ⟨r11, i11, v11⟩ := f11 rfl
          subst r11
          have r4 := f4 rfl
          have r9 := f9 rfl
          subst r4 r9
          dsimp only [cond_true] at v10 v11
          have G13 := Lib.hid v10
          have G14 := Lib.hid v11
          have G12 := Lib.hid (X5.out.under hb)
          have G5 := Lib.hid (V5.out.under hb)
          have P12 := Lib.hid (O5.out.under hb)
          have P13 := Lib.hid (f3 rfl)
          have P14 := Lib.hid (f8 rfl)
          have PN := Lib.hid (n38 rfl rfl)
          have GN := Lib.hid (hn rfl rfl)
          have BB := Lib.hid (B5.out.trans (hb.mono W5s.out))
          have WW := Lib.hid (HW.out.below (B5.out.trans (hb.mono W5s.out)))
          have Gi := Lib.hid (And.intro i10 i11)
          clear hr f0 f3 f4 f5 f8 f9 f10 f11 hn n05 n35 n38 k3 k4 k8 k9 k12 k13 hb hHeld v10 v11 i10 i11
          try simp only [Act.put, List.setIfInBounds_toArray, List.set_cons_zero, List.set_cons_succ]
          clear X5 O5 V5 B5 W5
          have WWm := Lib.hid (WW.out.more BB.out.size)
          have QQ12 := Lib.hid (show Win w' w'.heap.size A1 len c1 L from by obtain ⟨A, c, e, h⟩ := own_form P12.out HLL.out; cases e; exact h)
          have QQ13 := Lib.hid (show Win w' w'.heap.size A7 len c7 L from by obtain ⟨A, c, e, h⟩ := own_form P13.out HLL.out; cases e; exact h)
          have QQ14 := Lib.hid (show Win w' w'.heap.size A8 len c8 L from by obtain ⟨A, c, e, h⟩ := own_form P14.out HLL.out; cases e; exact h)
          have hcc := G5.out.var.cell
          have CSB := Lib.hid fun (W : World) (h : Win W W.heap.size a len cap L) => right_any L h (Nat.le_refl _)
          obtain ⟨RB, hRB⟩ : ∃ RB, rightB L = RB := ⟨_, rfl⟩
          have HRB := Lib.hid hRB
          rw [hRB] at CSB
          clear hRB
          go_wp2_with (go_at_call 12; fail)
          refine (CSB.out _ WWm.out).mono ?_
          rintro e w20 ⟨rfl, hb⟩
          have V25 := Lib.hid (G5.out.under hb)
          have Q25 := Lib.hid ((WWm.out.below hb).more hb.size)
          have H20 := Lib.hid hb
          clear hb hcc
          have hcc := V25.out.var.cell
          go_wp2_with (go_at_call 12; fail)
          refine (CSB.out _ Q25.out).mono ?_
          rintro e w21 ⟨rfl, hb⟩
          have H21 := Lib.hid (H20.out.trans (hb.mono H20.out.size))
          clear hb hcc V25 Q25 H20 CSB
          go_upto_if 101 with (fail)
          go_cut [15, 16] from 102 to 183 (fun s15 s16 wx => s15 = .int .i64 (outW L) ∧ s16 = .bool (restB L) ∧ VarS wx w.heap.size (.slice a len cap) ∧ VarS wx w1.heap.size (.slice A1 len c1) ∧ VarS wx g13 (.slice A7 len c7) ∧ VarS wx g14 (.slice A8 len c8) ∧ Win wx wx.heap.size a len cap L ∧ Win wx wx.heap.size A1 len c1 L ∧ Win wx wx.heap.size A7 len c7 (pushW L p) ∧ Win wx wx.heap.size A8 len c8 (shiftW L d) ∧ Below w.heap.size w wx)
          case first =>
            by_cases hr : RightW L
            case neg =>
              have hrb : RB = false := HRB.out.symm.trans (rightB_no hr)
              subst hrb
              have E1 := Lib.hid (And.intro (outW_no hr) (And.intro (rest_not hr) (And.intro (push_not (p := p) hr) (shift_not (d := d) hr))))
              clear hr
              go_wp2
              go_meet
              case rel => exact ⟨by rw [E1.out.1], by rw [E1.out.2.1], G5.out.under H21.out, G12.out.under H21.out, G13.out.under H21.out, G14.out.under H21.out, (WWm.out.below H21.out).more H21.out.size, (QQ12.out.below H21.out).more H21.out.size, by rw [E1.out.2.2.1]; exact (QQ13.out.below H21.out).more H21.out.size, by rw [E1.out.2.2.2]; exact (QQ14.out.below H21.out).more H21.out.size, BB.out.trans (H21.out.mono BB.out.size)⟩
            case pos =>
              have hrb : RB = true := HRB.out.symm.trans (rightB_yes hr)
              subst hrb
              have hl1 : 0 < len := by have := hr.1; have := HLL.out; omega
              have hl16 : len ≤ 16 := by have := hr.2.1; have := HLL.out; omega
              obtain ⟨r12, c12, e12, hb12, ho12, hm12, hx12, hr12⟩ := P12.out.row (by rw [HLL.out]; omega)
              obtain ⟨r13, c13, e13, hb13, ho13, hm13, hx13, hr13⟩ := P13.out.row (by rw [HLL.out]; omega)
              obtain ⟨r14, c14, e14, hb14, ho14, hm14, hx14, hr14⟩ := P14.out.row (by rw [HLL.out]; omega)
              rw [HLL.out] at e12 e13 e14 hr12 hr13 hr14 hm12 hm13 hm14
              have hn12 := L5.out r12 ho12
              have hn34 : r13 ≠ r14 := fun e => PN.out (by rw [ho13, ho14, e])
              injection e12 with e12 _ e12c
              injection e13 with e13 _ e13c
              injection e14 with e14 _ e14c
              subst e12 e12c e13 e13c e14 e14c
              have HN := Lib.hid (show r12 ≠ r13 ∧ r12 ≠ r14 ∧ r13 ≠ r14 ∧ w.heap.size ≤ r13 ∧ w.heap.size ≤ r14 by have := S5.out; have := N5.out; have := M5.out; omega)
              have HM := Lib.hid (And.intro hm12 (And.intro hx12 (And.intro hm13 (And.intro hx13 (And.intro hm14 hx14)))))
              have RZ := Lib.hid (show Rows3 w w' w1.heap.size g13 g14 r12 r13 r14 len (.slice a len cap) (.slice (some ⟨r12, 0, none⟩) len c1) (.slice (some ⟨r13, 0, none⟩) len c7) (.slice (some ⟨r14, 0, none⟩) len c8) L (fun i => L.getD i 0) (fun i => L.getD i 0) from ⟨G5.out, G12.out, G13.out, G14.out, hr12, hr13, hr14, BB.out⟩)
              obtain ⟨b, off, rfl, hbw, hcell⟩ := HW.out.2.2.2.2 hl1
              have HC := Lib.hid (show ∀ W, Below w.heap.size w W → ∀ i, i < len → W.cell? ⟨b, off + i, none⟩ = some (.int .i64 (L.getD i 0)) from fun W hB i hi => (hB.cell (p := ⟨b, off + i, none⟩) hbw).trans (hcell i hi))
              have HS := Lib.hid (show ∀ W, Below w.heap.size w W → Win W W.heap.size (some ⟨b, off, none⟩) len cap L from fun W hB => (HW.out.below hB).more hB.size)
              have HR := Lib.hid hr
              clear hcell hr12 hr13 hr14 hb12 hb13 hb14 ho12 ho13 ho14 hm12 hm13 hm14 hx12 hx13 hx14 hn12 hn34 P12 P13 P14 PN GN Gi G5 G12 G13 G14 QQ12 QQ13 QQ14 WW WWm BB HW L5 N5 M5 S5 W5s B2s hr
              have R21 := Lib.hid (RZ.out.under H21.out)
              clear RZ H21
              go_upto_region 13 with (fail)
              go_cut [17] from 102 to 107 (fun s17 wx => s17 = .bool (decide (-4398046511104 ≤ d ∧ d ≤ 4398046511104)) ∧ wx = w21)
              case first =>
                by_cases h1 : -4398046511104 ≤ d
                · by_cases h2 : d ≤ 4398046511104
                  · have HE := Lib.hid (show decide (-4398046511104 ≤ d ∧ d ≤ 4398046511104) = true from decide_eq_true ⟨h1, h2⟩)
                    go_wp2
                    go_meet
                    case rel => exact ⟨by rw [HE.out], rfl⟩
                  · have HE := Lib.hid (show decide (-4398046511104 ≤ d ∧ d ≤ 4398046511104) = false from decide_eq_false fun h => h2 h.2)
                    have hd : decide (d ≤ 4398046511104) = false := decide_eq_false h2
                    go_wp2
                    go_meet
                    case rel => exact ⟨by rw [HE.out], rfl⟩
                · have HE := Lib.hid (show decide (-4398046511104 ≤ d ∧ d ≤ 4398046511104) = false from decide_eq_false fun h => h1 h.1)
                  have hd : decide (-4398046511104 ≤ d) = false := decide_eq_false h1
                  go_wp2
                  go_meet
                  case rel => exact ⟨by rw [HE.out], rfl⟩
              case rest =>
                obtain ⟨rfl, rfl⟩ := hcut
                obtain ⟨F0, hF0⟩ : ∃ b, decide (-4398046511104 ≤ d ∧ d ≤ 4398046511104) = b := ⟨_, rfl⟩
                rw [hF0]
                have HF0 := Lib.hid hF0
                obtain ⟨y0, hy0⟩ : ∃ y, L.getD 0 0 = y := ⟨_, rfl⟩
                have HY0 := Lib.hid hy0
                clear hF0 hy0
                go_wp2
                go_loopw [15, 16, 17, 18] (fun s15 s16 s17 s18 wr => ∃ (j n : Nat) (S : Int) (Rb Fb : Bool), j ≤ len ∧ s18 = .int .i64 j ∧ s15 = .int .i64 S ∧ s16 = .bool Rb ∧ s17 = .bool Fb ∧ S = (L.take j).sum ∧ Rb = (L.take j).all (fun z => z == y0) ∧ Fb = (F0 && (L.take j).all fun z => placeB (z + d)) ∧ wr = wc.drewN n) (fun _ _ _ s18 _ => len - (intOf s18).toNat)
                case atStart => exact ⟨0, 0, 0, true, F0, Nat.zero_le _, rfl, rfl, rfl, rfl, by simp, by simp, by simp, rfl⟩
                case round =>
                  obtain ⟨j, n, S, Rb, Fb, hj, rfl, rfl, rfl, rfl, hS, hRb, hFb, rfl⟩ := hrel
                  have hSb := sum_inP (L := L.take j) fun y hy => HR.out.2.2 y (List.mem_of_mem_take hy)
                  rw [← hS, List.length_take, HLL.out] at hSb
                  have hS1 : -35184372088832 ≤ S ∧ S ≤ 35184372088832 := by omega
                  have HJ := Lib.hid (And.intro hS (And.intro hRb hFb))
                  clear hS hRb hFb hSb
                  have hcc := R21.out.vs.var.cell
                  by_cases hlt : j < len
                  case pos =>
                    have ce := HC.out _ R21.out.bel j hlt
                    have c0 := HC.out _ R21.out.bel 0 hl1
                    have hin := HR.out.at (i := j) (by rw [HLL.out]; exact hlt)
                    have h1 := sum_step (L := L) (j := j) (by rw [HLL.out]; exact hlt)
                    have h2 := all_step (L := L) (j := j) (fun z => z == y0) (by rw [HLL.out]; exact hlt)
                    have h3 := all_step (L := L) (j := j) (fun z => placeB (z + d)) (by rw [HLL.out]; exact hlt)
                    rw [HY0.out, Nat.add_zero] at c0
                    obtain ⟨x, hx⟩ : ∃ x, L.getD j 0 = x := ⟨_, rfl⟩
                    rw [hx] at ce hin h1 h2 h3
                    rw [← HJ.out.1] at h1
                    rw [← HJ.out.2.1] at h2
                    obtain ⟨i1, i2⟩ := hin
                    have hj0 : (0 : Int) ≤ (j : Int) := by omega
                    have hj1 : (j : Int) < (len : Int) := by omega
                    have HX1 := Lib.hid h1.symm
                    have h4 : (F0 && (L.take (j + 1)).all fun z => placeB (z + d)) = (Fb && placeB (x + d)) := by rw [h3, HJ.out.2.2, Bool.and_assoc]
                    have HF1 := Lib.hid (show Fb = true → -4398046511104 ≤ d ∧ d ≤ 4398046511104 from fun h => by
                      have h5 := HJ.out.2.2
                      rw [h] at h5
                      have h6 : F0 = true := by cases hh : F0 with | true => rfl | false => rw [hh] at h5; cases h5
                      exact of_decide_eq_true (HF0.out.trans h6))
                    have PL := Lib.hid fun W => place_any (x + d) W
                    clear h1 h3 hx
                    cases Rb
                    all_goals
                      have HX2 := Lib.hid h2.symm
                      clear h2
                      cases Fb
                      case' true =>
                        obtain ⟨q1, q2⟩ := HF1.out rfl
                      all_goals
                        have HX3 := Lib.hid h4.symm
                        clear h4
                        go_upto_region 18 with (fail)
                        go_quiet (fail)
                        go_wp2_with (go_at_call 10; ((with_reducible refine (PL.out _).mono ?_); rintro e w22 ⟨rfl, rfl⟩))
                        go_roundw
                        case rel => exact ⟨j + 1, n + nq, S + x, _, _, by omega, by go_num, rfl, rfl, rfl, HX1.out, HX2.out, HX3.out, (by first | rfl | exact World.drewN_drewN _ _ _)⟩
                        case measure => simp [intOf]; omega
                  case neg =>
                    have hjl : len = j := by omega
                    subst hjl
                    have htk : L.take len = L := List.take_of_length_le (by rw [HLL.out]; exact Nat.le_refl _)
                    have hSe : outW L = S := by rw [outW_yes HR.out, HJ.out.1, htk]
                    have hRe : restB L = Rb := by rw [HJ.out.2.1, htk, ← HY0.out]; exact rest_all HR.out
                    have hFb : Fb = L.all fun z => placeB (z + d) := by
                      have h5 := HJ.out.2.2
                      rw [htk] at h5
                      rw [h5]
                      cases hh : L.all fun z => placeB (z + d) with
                      | false => simp
                      | true =>
                        have h6 : F0 = true := HF0.out.symm.trans (decide_eq_true (far_of HR.out hh))
                        rw [h6]; rfl
                    have hMe : shiftW L d = (if Fb = true then L.map (· + d) else L) := by rw [hFb]; exact shift_all HR.out
                    obtain ⟨PB, hPB⟩ : ∃ PB, placeB p = PB := ⟨_, rfl⟩
                    have hPe : pushW L p = (if PB = true then p :: L.take (L.length - 1) else L) := by rw [← hPB]; exact push_all HR.out
                    obtain ⟨P, hP⟩ : ∃ P, (if PB = true then p :: L.take (L.length - 1) else L) = P := ⟨_, rfl⟩
                    obtain ⟨M, hM⟩ : ∃ M, (if Fb = true then L.map (· + d) else L) = M := ⟨_, rfl⟩
                    rw [hP] at hPe
                    rw [hM] at hMe
                    have PL2 := Lib.hid fun W => hPB ▸ place_any p W
                    have HE := Lib.hid (And.intro hP (And.intro hM hFb))
                    have HFd := Lib.hid (show Fb = true → ∀ z ∈ L, inP (z + d) from fun h z hz => by rw [hFb, List.all_eq_true] at h; exact of_decide_eq_true (h z hz))
                    have RL := Lib.hid ((R21.out.drawn n).cong (f := pf PB L 0) (f' := mf Fb d L 0) (fun i _ => (pf_start PB L i).symm) (fun i _ => (mf_start Fb d L i).symm))
                    have HPM := Lib.hid (And.intro hPe (And.intro hMe (And.intro hSe hRe)))
                    clear htk hSe hRe hFb hMe hPB hPe hP hM hj HJ HF0 R21
                    go_wp2
                    go_loopw [19] (fun s19 wr => ∃ (j2 : Nat), j2 ≤ len ∧ s19 = .int .i64 j2 ∧ Rows3 w wr w1.heap.size g13 g14 r12 r13 r14 len (.slice (some ⟨b, off, none⟩) len cap) (.slice (some ⟨r12, 0, none⟩) len c1) (.slice (some ⟨r13, 0, none⟩) len c7) (.slice (some ⟨r14, 0, none⟩) len c8) L (pf PB L j2) (mf Fb d L j2)) (fun s19 _ => len - (intOf s19).toNat)
                    case atStart => exact ⟨0, Nat.zero_le _, rfl, RL.out⟩
                    case round =>
                      obtain ⟨j2, hj, rfl, hR⟩ := hrel
                      clear RL hcc
                      have R0 := Lib.hid hR
                      clear hR
                      have hcc := R0.out.vs.var.cell
                      by_cases hlt : j2 < len
                      case pos =>
                        have hj0 : (0 : Int) ≤ (j2 : Int) := by omega
                        have hj1 : (j2 : Int) < (len : Int) := by omega
                        cases Fb
                        case' false =>
                          have R1 := Lib.hid (R0.out.cong (f := pf PB L j2) (f' := mf false d L (j2 + 1)) (fun _ _ => rfl) (fun i _ => mf_same i))
                          go_upto_region 25 with (fail)
                          clear hcc
                        case' true =>
                          have hin := HR.out.at (i := j2) (by rw [HLL.out]; exact hlt)
                          have hxd := HFd.out rfl _ (getD_mem (L := L) (i := j2) (by rw [HLL.out]; exact hlt))
                          have crow := R0.out.r14.cell hlt
                          have frow := R0.out.r14.frozen j2
                          rw [mf_at] at crow
                          have hc14 := R0.out.v14.var.cell
                          have hst := R0.out.set14 hlt (L.getD j2 0 + d) HN.out.2.1 HN.out.2.2.1 HN.out.2.2.2.2
                          obtain ⟨x, hx⟩ : ∃ x, L.getD j2 0 = x := ⟨_, rfl⟩
                          rw [hx] at hin hxd crow hst
                          obtain ⟨i1, i2⟩ := hin
                          obtain ⟨i3, i4⟩ := hxd
                          have HSE := Lib.hid (show ∀ k, (if k = j2 then x + d else mf true d L j2 k) = mf true d L (j2 + 1) k from fun k => by have := mf_step (d := d) (L := L) (j := j2) k; rw [hx] at this; exact this)
                          have HST := Lib.hid hst
                          clear hst hx
                          go_upto_region 25 with (fail)
                          have R1 := Lib.hid (HST.out.cong (f := pf PB L j2) (f' := mf true d L (j2 + 1)) (fun _ _ => rfl) (fun k _ => HSE.out k))
                          clear hcc crow frow hc14 HST HSE i1 i2 i3 i4
                          obtain ⟨x1, e1⟩ : ∃ W, wr.setCell ⟨r14, j2, none⟩ (.int .i64 (x + d)) = W := ⟨_, rfl⟩
                          rw [e1] at R1 ⊢
                          clear e1
                        all_goals
                          have hcc := R1.out.vs.var.cell
                          have hc13 := R1.out.v13.var.cell
                          cases PB
                          case false =>
                            go_wp2_with (go_at_call 10; ((with_reducible refine (PL2.out _).mono ?_); rintro e w24 ⟨rfl, rfl⟩))
                            go_roundw
                            case rel => exact ⟨j2 + 1, by omega, by go_num, R1.out.cong (fun i _ => pf_same (.inl rfl) i) (fun _ _ => rfl)⟩
                            case measure => simp [intOf]; omega
                          case true =>
                            by_cases hz : j2 = 0
                            · have hd0 : decide ((0 : Int) < (j2 : Int)) = false := decide_eq_false (by omega)
                              have hd1 : decide (0 < j2) = false := decide_eq_false (by omega)
                              have HSE2 := Lib.hid (show ∀ i, pf true L j2 i = pf true L (j2 + 1) i from fun i => pf_same (.inr hz) i)
                              clear hz
                              go_wp2_with (go_at_call 10; ((with_reducible refine (PL2.out _).mono ?_); rintro e w24 ⟨rfl, rfl⟩))
                              go_roundw
                              case rel => exact ⟨j2 + 1, by omega, by go_num, R1.out.cong (fun i _ => HSE2.out i) (fun _ _ => rfl)⟩
                              case measure => simp [intOf]; omega
                            · obtain ⟨kk, hkk⟩ : ∃ kk, j2 = kk + 1 := ⟨j2 - 1, by omega⟩
                              have hjk : IntKind.i64.wrap ((j2 : Int) - 1) = (kk : Int) := by rw [IntWalk.i64_in _ (by omega)]; omega
                              have hkl : kk < len := by omega
                              have cy := HC.out _ R1.out.bel kk hkl
                              obtain ⟨y, hy⟩ : ∃ y, L.getD kk 0 = y := ⟨_, rfl⟩
                              rw [hy] at cy
                              have hst : Rows3 w _ w1.heap.size g13 g14 r12 r13 r14 len (.slice (some ⟨b, off, none⟩) len cap) (.slice (some ⟨r12, 0, none⟩) len c1) (.slice (some ⟨r13, 0, none⟩) len c7) (.slice (some ⟨r14, 0, none⟩) len c8) L (fun k => if k = j2 then y else pf true L j2 k) (mf _ d L (j2 + 1)) := R1.out.drew.set13 hlt y HN.out.1 (Ne.symm HN.out.2.2.1) HN.out.2.2.2.1
                              have HST := Lib.hid hst
                              have HSE := Lib.hid (show ∀ k, (if k = j2 then y else pf true L j2 k) = pf true L (j2 + 1) k from fun k => by have := pf_step (L := L) (j := j2) (by omega) k; rw [show j2 - 1 = kk by omega, hy] at this; exact this)
                              clear hst hy hkk
                              have hj0 : (0 : Int) ≤ (j2 : Int) := by omega
                              have hj1 : (j2 : Int) < (len : Int) := by omega
                              have hk0 : (0 : Int) ≤ (kk : Int) := by omega
                              go_upto_region 26 with (go_at_call 10; ((with_reducible refine (PL2.out _).mono ?_); rintro e w24 ⟨rfl, rfl⟩))
                              refine wp_region_T (by kernel_rfl) (fun w' => World.cell? w' ⟨w.heap.size, 0, none⟩ = some (.slice (some ⟨b, off, none⟩) len cap) ∧ World.cell? w' ⟨g13, 0, none⟩ = some (.slice (some ⟨r13, 0, none⟩) len c7) ∧ World.cell? w' ⟨b, off + kk, none⟩ = some (.int .i64 y)) [10] ⟨R1.out.drew.vs.var.cell, R1.out.drew.v13.var.cell, cy⟩ (fun hHeld => ?_)
                              refine wpAnyT_take (i := 0) (v := ?_) rfl (by kernel_rfl) (by kernel_rfl) (by kernel_rfl) (fun _ _ _ h => h) (Or.inl ⟨by rfl, ?_⟩) (by assumption) ?_
                              rotate_left 1
                              · intro w hSw; clear hSw; go_simp <;> (with_reducible rfl)
                              try simp only [Act.put, List.setIfInBounds_toArray, List.set_cons_zero, List.set_cons_succ, List.getElem_toArray, List.getElem_cons_zero]
                              refine wpAnyT_take (i := 1) (v := ?_) rfl (by kernel_rfl) (by kernel_rfl) (by kernel_rfl) (fun _ _ _ h => h) (Or.inl ⟨by rfl, ?_⟩) (by assumption) ?_
                              rotate_left 1
                              · intro w hSw; obtain ⟨hs1, hs2, hs3⟩ := hSw; go_simp <;> (with_reducible rfl)
                              try simp only [Act.put, List.setIfInBounds_toArray, List.set_cons_zero, List.set_cons_succ, List.getElem_toArray, List.getElem_cons_succ, List.getElem_cons_zero]
                              refine wpAnyT_take (i := 2) (v := ?_) rfl (by kernel_rfl) (by kernel_rfl) (by kernel_rfl) (fun _ _ _ h => h) (Or.inl ⟨by rfl, ?_⟩) (by assumption) ?_
                              rotate_left 1
                              · intro w hSw; clear hSw; go_simp <;> (with_reducible rfl)
                              try simp only [Act.put, List.setIfInBounds_toArray, List.set_cons_zero, List.set_cons_succ, List.getElem_toArray, List.getElem_cons_succ, List.getElem_cons_zero]
                              refine wpAnyT_take (i := 3) (v := ?_) rfl (by kernel_rfl) (by kernel_rfl) (by kernel_rfl) (fun _ _ _ h => h) (Or.inl ⟨by rfl, ?_⟩) (by assumption) ?_
                              rotate_left 1
                              · intro w hSw; clear hSw; go_simp <;> (with_reducible rfl)
                              try simp only [Act.put, List.setIfInBounds_toArray, List.set_cons_zero, List.set_cons_succ, List.getElem_toArray, List.getElem_cons_succ, List.getElem_cons_zero]
                              refine wpAnyT_take (i := 4) (v := ?_) rfl (by kernel_rfl) (by kernel_rfl) (by kernel_rfl) (fun _ _ _ h => h) (Or.inl ⟨by rfl, ?_⟩) (by assumption) ?_
                              rotate_left 1
                              · intro w hSw; obtain ⟨hs1, hs2, hs3⟩ := hSw; go_simp <;> (with_reducible rfl)
                              try simp only [Act.put, List.setIfInBounds_toArray, List.set_cons_zero, List.set_cons_succ, List.getElem_toArray, List.getElem_cons_succ, List.getElem_cons_zero]
                              refine wpAnyT_take (i := 5) (v := ?_) rfl (by kernel_rfl) (by kernel_rfl) (by kernel_rfl) (fun _ _ _ h => h) (Or.inl ⟨by rfl, ?_⟩) (by assumption) ?_
                              rotate_left 1
                              · intro w hSw; clear hSw; go_simp <;> (with_reducible rfl)
                              try simp only [Act.put, List.setIfInBounds_toArray, List.set_cons_zero, List.set_cons_succ, List.getElem_toArray, List.getElem_cons_succ, List.getElem_cons_zero]
                              refine wpAnyT_take (i := 6) (v := ?_) rfl (by kernel_rfl) (by kernel_rfl) (by kernel_rfl) (fun _ _ _ h => h) (Or.inl ⟨by rfl, ?_⟩) (by assumption) ?_
                              rotate_left 1
                              · intro w hSw; clear hSw; go_simp <;> (with_reducible rfl)
                              try simp only [Act.put, List.setIfInBounds_toArray, List.set_cons_zero, List.set_cons_succ, List.getElem_toArray, List.getElem_cons_succ, List.getElem_cons_zero]
                              refine wpAnyT_take (i := 7) (v := ?_) rfl (by kernel_rfl) (by kernel_rfl) (by kernel_rfl) (fun _ _ _ h => h) (Or.inl ⟨by rfl, ?_⟩) (by assumption) ?_
                              rotate_left 1
                              · intro w hSw; clear hSw; go_simp <;> (with_reducible rfl)
                              try simp only [Act.put, List.setIfInBounds_toArray, List.set_cons_zero, List.set_cons_succ, List.getElem_toArray, List.getElem_cons_succ, List.getElem_cons_zero]
                              refine wpAnyT_take (i := 8) (v := ?_) rfl (by kernel_rfl) (by kernel_rfl) (by kernel_rfl) (fun _ _ _ h => h) (Or.inl ⟨by rfl, ?_⟩) (by assumption) ?_
                              rotate_left 1
                              · intro w hSw; obtain ⟨hs1, hs2, hs3⟩ := hSw; go_simp <;> (with_reducible rfl)
                              try simp only [Act.put, List.setIfInBounds_toArray, List.set_cons_zero, List.set_cons_succ, List.getElem_toArray, List.getElem_cons_succ, List.getElem_cons_zero]
                              refine wpAnyT_take (i := 9) (v := ?_) rfl (by kernel_rfl) (by kernel_rfl) (by kernel_rfl) (fun _ _ _ h => h) (Or.inl ⟨by rfl, ?_⟩) (by assumption) ?_
                              rotate_left 1
                              · intro w hSw; clear hSw; go_simp <;> (with_reducible rfl)
                              try simp only [Act.put, List.setIfInBounds_toArray, List.set_cons_zero, List.set_cons_succ, List.getElem_toArray, List.getElem_cons_succ, List.getElem_cons_zero]
                              have hrc := R1.out.drew.r13.cell hlt
                              have hrf := R1.out.drew.r13.frozen j2
                              refine wpAnyT_ready (rs := [10]) (by kernel_rfl) (by simp) ?_
                              refine AllReadyT.spoilt rfl (by kernel_rfl) (fun K hK => ?_) AllReadyT.nil
                              go_simp
                              refine hK.out _ _ ?_
                              clear hK K
                              try simp only [Act.put, List.setIfInBounds_toArray, List.set_cons_zero, List.set_cons_succ, List.getElem_toArray, List.getElem_cons_succ, List.getElem_cons_zero]
                              refine wpAnyT_done (by kernel_rfl) ?_ _
                              go_wp2_with fail
                              go_roundw
                              case rel => exact ⟨j2 + 1, by omega, by go_num, HST.out.cong (fun k _ => HSE.out k) (fun _ _ => rfl)⟩
                              case measure => simp [intOf]; omega
                      case neg =>
                        have hjl2 : len = j2 := by omega
                        subst hjl2
                        have HQ := Lib.hid (show Rows3 w wr w1.heap.size g13 g14 r12 r13 r14 len (.slice (some ⟨b, off, none⟩) len cap) (.slice (some ⟨r12, 0, none⟩) len c1) (.slice (some ⟨r13, 0, none⟩) len c7) (.slice (some ⟨r14, 0, none⟩) len c8) L (pf PB L len) (fun i => M.getD i 0) from R0.out.cong (fun _ _ => rfl) (fun i hi => by
                          rw [← HE.out.2.1]
                          cases Fb with
                          | false => rw [if_neg (by simp), mf_end_no]
                          | true => rw [if_pos rfl, ← mf_end (by rw [HLL.out]; exact hi), HLL.out]))
                        have hMl : M.length = len := by rw [← HE.out.2.1]; split <;> simp [HLL.out]
                        have hPl : P.length = len := by
                          rw [← HE.out.1]
                          split
                          · rw [push_len HR.out, HLL.out]
                          · exact HLL.out
                        have HLE := Lib.hid (And.intro hMl hPl)
                        have hcd := R0.out.v13.var.cell
                        have crow := R0.out.r13.cell hl1
                        have frow := R0.out.r13.frozen 0
                        clear hMl hPl
                        have hPQ : ∀ i, i < len → (if PB = true then (if i = 0 then p else pf PB L len i) else pf PB L len i) = P.getD i 0 := fun i hi => by
                          rw [← HE.out.1]
                          cases PB with
                          | false => rw [if_neg (by simp), if_neg (by simp), pf_end_no]
                          | true => rw [if_pos rfl, if_pos rfl, ← pf_end (by rw [HLL.out]; exact hi), HLL.out]
                        have HPQ := Lib.hid hPQ
                        clear hPQ
                        cases PB
                        case' false =>
                          have RF := Lib.hid (HQ.out.cong (f := fun i => P.getD i 0) (f' := fun i => M.getD i 0) (fun i hi => by have := HPQ.out i hi; simpa using this) (fun _ _ => rfl))
                          go_wp2_with (go_at_call 10; ((with_reducible refine (PL2.out _).mono ?_); rintro e w24 ⟨rfl, rfl⟩))
                          go_meet
                        case' true =>
                          have RF := Lib.hid ((HQ.out.set13 hl1 p HN.out.1 (Ne.symm HN.out.2.2.1) HN.out.2.2.2.1).cong (f := fun i => P.getD i 0) (f' := fun i => M.getD i 0) (fun i hi => by have := HPQ.out i hi; simpa using this) (fun _ _ => rfl))
                          go_wp2_with (go_at_call 10; ((with_reducible refine (PL2.out _).mono ?_); rintro e w24 ⟨rfl, rfl⟩))
                          go_meet
                        all_goals
                          exact ⟨by rw [HPM.out.2.2.1], by rw [HPM.out.2.2.2], RF.out.vs, RF.out.v12, RF.out.v13, RF.out.v14, HS.out _ RF.out.bel, RF.out.r12.win HLL.out HM.out.1 HM.out.2.1 (fun _ _ => rfl), by rw [HPM.out.1]; exact RF.out.r13.win HLE.out.2 HM.out.2.2.1 HM.out.2.2.2.1 (fun _ _ => rfl), by rw [HPM.out.2.1]; exact RF.out.r14.win HLE.out.1 HM.out.2.2.2.2.1 HM.out.2.2.2.2.2 (fun _ _ => rfl), RF.out.bel⟩
          case rest =>
            obtain ⟨rfl, rfl, h1, h2, h3, h4, h5, h6, h7, h8, h9⟩ := hcut
            clear G5 G12 G13 G14 WWm QQ12 QQ13 QQ14 WW BB HW P12 P13 P14 PN GN Gi L5 N5 M5 S5 H21
            have V05 := Lib.hid h1
            have V012 := Lib.hid h2
            have V013 := Lib.hid h3
            have V014 := Lib.hid h4
            have Q05 := Lib.hid h5
            have Q012 := Lib.hid h6
            have Q013 := Lib.hid h7
            have Q014 := Lib.hid h8
            have BZ0 := Lib.hid h9
            clear h1 h2 h3 h4 h5 h6 h7 h8 h9
            have CR := Lib.hid fun (W : World) (A : Option Addr) (c : Nat) (h : Win W W.heap.size A len c L) => isright_any L h (Nat.le_refl _)
            have CS := Lib.hid fun (W : World) (h : Win W W.heap.size a len cap L) => right_any L h (Nat.le_refl _)
            have CP := Lib.hid fun (W : World) (A : Option Addr) (c : Nat) (h : Win W W.heap.size A len c L) => push_any L p (by rw [HLL.out]; omega) h (Nat.le_refl _)
            have CM := Lib.hid fun (W : World) (A : Option Addr) (c : Nat) (h : Win W W.heap.size A len c L) => shift_any L d (by rw [HLL.out]; omega) h (Nat.le_refl _)
            have CO := Lib.hid fun (W : World) (A : Option Addr) (c : Nat) (h : Win W W.heap.size A len c L) => out_any L h (Nat.le_refl _)
            have CT := Lib.hid fun (W : World) (A : Option Addr) (c : Nat) (h : Win W W.heap.size A len c L) => rest_any L h (Nat.le_refl _)
            have CX1 := Lib.hid fun (W : World) (A : Option Addr) (l c : Nat) (h : Win W W.heap.size A l c ((pushW L p))) (h' : Win W W.heap.size A7 len c7 ((pushW L p))) => (sameB_self ((pushW L p))) ▸ same_any ((pushW L p)) ((pushW L p)) h (Nat.le_refl _) h' (Nat.le_refl _)
            have CX2 := Lib.hid fun (W : World) (A : Option Addr) (l c : Nat) (h : Win W W.heap.size A l c ((shiftW L d))) (h' : Win W W.heap.size A8 len c8 ((shiftW L d))) => (sameB_self ((shiftW L d))) ▸ same_any ((shiftW L d)) ((shiftW L d)) h (Nat.le_refl _) h' (Nat.le_refl _)
            have CX3 := Lib.hid fun (W : World) (A : Option Addr) (c : Nat) (h : Win W W.heap.size A len c L) (h' : Win W W.heap.size a len cap L) => (sameB_self L) ▸ same_any L L h (Nat.le_refl _) h' (Nat.le_refl _)
            obtain ⟨S, hS⟩ : ∃ S, outW L = S := ⟨_, rfl⟩
            obtain ⟨Rb, hRb⟩ : ∃ R, restB L = R := ⟨_, rfl⟩
            obtain ⟨Br, hBr⟩ : ∃ R, rightB L = R := ⟨_, rfl⟩
            rw [hS] at CO ⊢
            rw [hRb] at CT ⊢
            rw [hBr] at CR CS
            clear hS hRb hBr
            go_upto_region 29 with (fail)
            refine wp_region_T (by kernel_rfl) (fun w' => World.cell? w' ⟨w.heap.size, 0, none⟩ = some (.slice a len cap) ∧ World.cell? w' ⟨w1.heap.size, 0, none⟩ = some (.slice A1 len c1) ∧ World.cell? w' ⟨g13, 0, none⟩ = some (.slice A7 len c7) ∧ World.cell? w' ⟨g14, 0, none⟩ = some (.slice A8 len c8)) [] ⟨V05.out.drew.var.cell, V012.out.drew.var.cell, V013.out.drew.var.cell, V014.out.drew.var.cell⟩ (fun hHeld => ?_)
            have Vd5 := Lib.hid V05.out.drew
            have Qd5 := Lib.hid Q05.out.drew
            have Vd12 := Lib.hid V012.out.drew
            have Qd12 := Lib.hid Q012.out.drew
            have Vd13 := Lib.hid V013.out.drew
            have Qd13 := Lib.hid Q013.out.drew
            have Vd14 := Lib.hid V014.out.drew
            have Qd14 := Lib.hid Q014.out.drew
            have BZd := Lib.hid BZ0.out.drew
            refine wpAnyT_take (i := 0) (v := ?_) rfl (by kernel_rfl) (by kernel_rfl) (by kernel_rfl) (fun _ _ _ h => h) (Or.inl ⟨by rfl, ?_⟩) (by assumption) ?_
            rotate_left 1
            · intro w hSw; obtain ⟨hs1, hs2, hs3, hs4⟩ := hSw; go_simp <;> (with_reducible rfl)
            try simp only [Act.put, List.setIfInBounds_toArray, List.set_cons_zero, List.set_cons_succ, List.getElem_toArray, List.getElem_cons_zero]
            refine wpAnyT_take (i := 2) (v := ?_) rfl (by kernel_rfl) (by kernel_rfl) (by kernel_rfl) (fun _ _ _ h => h) (Or.inl ⟨by rfl, ?_⟩) (by assumption) ?_
            rotate_left 1
            · intro w hSw; obtain ⟨hs1, hs2, hs3, hs4⟩ := hSw; go_simp <;> (with_reducible rfl)
            try simp only [Act.put, List.setIfInBounds_toArray, List.set_cons_zero, List.set_cons_succ, List.getElem_toArray, List.getElem_cons_succ, List.getElem_cons_zero]
            refine wpAnyT_ready (rs := [1]) (by kernel_rfl) (by simp) ?_
            refine AllReadyT.cons rfl (fun K hK => ?_) AllReadyT.nil
            go_simp
            (go_at_call 13; ((refine (CR.out _ _ _ Qd12.out).mono ?_); rintro e wa ⟨rfl, hb⟩))
            have Va5 := Lib.hid (Vd5.out.under hb)
            have Va12 := Lib.hid (Vd12.out.under hb)
            have Va13 := Lib.hid (Vd13.out.under hb)
            have Va14 := Lib.hid (Vd14.out.under hb)
            have Qa5 := Lib.hid ((Qd5.out.below hb).more hb.size)
            have Qa12 := Lib.hid ((Qd12.out.below hb).more hb.size)
            have Qa13 := Lib.hid ((Qd13.out.below hb).more hb.size)
            have Qa14 := Lib.hid ((Qd14.out.below hb).more hb.size)
            have BZa := Lib.hid (BZd.out.trans (hb.mono BZd.out.size))
            clear hb
            go_wp2_with fail
            refine hK.out _ _ ⟨Va5.out.var.cell, Va12.out.var.cell, Va13.out.var.cell, Va14.out.var.cell⟩ (fun hHeld => ?_)
            clear hK K
            try simp only [Act.put, List.setIfInBounds_toArray, List.set_cons_zero, List.set_cons_succ, List.getElem_toArray, List.getElem_cons_succ, List.getElem_cons_zero]
            refine wpAnyT_ready (rs := [3]) (by kernel_rfl) (by simp) ?_
            refine AllReadyT.cons rfl (fun K hK => ?_) AllReadyT.nil
            go_simp
            (go_at_call 12; ((refine (CS.out _ Qa5.out).mono ?_); rintro e wb ⟨rfl, hb⟩))
            have Vb5 := Lib.hid (Va5.out.under hb)
            have Vb12 := Lib.hid (Va12.out.under hb)
            have Vb13 := Lib.hid (Va13.out.under hb)
            have Vb14 := Lib.hid (Va14.out.under hb)
            have Qb5 := Lib.hid ((Qa5.out.below hb).more hb.size)
            have Qb12 := Lib.hid ((Qa12.out.below hb).more hb.size)
            have Qb13 := Lib.hid ((Qa13.out.below hb).more hb.size)
            have Qb14 := Lib.hid ((Qa14.out.below hb).more hb.size)
            have BZb := Lib.hid (BZa.out.trans (hb.mono BZa.out.size))
            clear hb
            go_wp2_with fail
            refine hK.out _ _ ⟨Vb5.out.var.cell, Vb12.out.var.cell, Vb13.out.var.cell, Vb14.out.var.cell⟩ (fun hHeld => ?_)
            clear hK K
            try simp only [Act.put, List.setIfInBounds_toArray, List.set_cons_zero, List.set_cons_succ, List.getElem_toArray, List.getElem_cons_succ, List.getElem_cons_zero]
            refine wpAnyT_take (i := 4) (v := ?_) rfl (by kernel_rfl) (by kernel_rfl) (by kernel_rfl) (fun _ _ _ h => h) (Or.inl ⟨by rfl, ?_⟩) (by assumption) ?_
            rotate_left 1
            · intro w hSw; clear hSw; go_simp <;> (with_reducible rfl)
            try simp only [Act.put, List.setIfInBounds_toArray, List.set_cons_zero, List.set_cons_succ, List.getElem_toArray, List.getElem_cons_succ, List.getElem_cons_zero]
            refine wpAnyT_take (i := 5) (v := ?_) rfl (by kernel_rfl) (by kernel_rfl) (by kernel_rfl) (fun _ _ _ h => h) (Or.inl ⟨by rfl, ?_⟩) (by assumption) ?_
            rotate_left 1
            · intro w hSw; clear hSw; go_simp <;> (with_reducible rfl)
            try simp only [Act.put, List.setIfInBounds_toArray, List.set_cons_zero, List.set_cons_succ, List.getElem_toArray, List.getElem_cons_succ, List.getElem_cons_zero]
            refine wpAnyT_take (i := 6) (v := ?_) rfl (by kernel_rfl) (by kernel_rfl) (by kernel_rfl) (fun _ _ _ h => h) (Or.inl ⟨by rfl, ?_⟩) (by assumption) ?_
            rotate_left 1
            · intro w hSw; obtain ⟨hs1, hs2, hs3, hs4⟩ := hSw; go_simp <;> (with_reducible rfl)
            try simp only [Act.put, List.setIfInBounds_toArray, List.set_cons_zero, List.set_cons_succ, List.getElem_toArray, List.getElem_cons_succ, List.getElem_cons_zero]
            refine wpAnyT_take (i := 7) (v := ?_) rfl (by kernel_rfl) (by kernel_rfl) (by kernel_rfl) (fun _ _ _ h => h) (Or.inl ⟨by rfl, ?_⟩) (by assumption) ?_
            rotate_left 1
            · intro w hSw; clear hSw; go_simp <;> (with_reducible rfl)
            try simp only [Act.put, List.setIfInBounds_toArray, List.set_cons_zero, List.set_cons_succ, List.getElem_toArray, List.getElem_cons_succ, List.getElem_cons_zero]
            refine wpAnyT_take (i := 9) (v := ?_) rfl (by kernel_rfl) (by kernel_rfl) (by kernel_rfl) (fun _ _ _ h => h) (Or.inl ⟨by rfl, ?_⟩) (by assumption) ?_
            rotate_left 1
            · intro w hSw; obtain ⟨hs1, hs2, hs3, hs4⟩ := hSw; go_simp <;> (with_reducible rfl)
            try simp only [Act.put, List.setIfInBounds_toArray, List.set_cons_zero, List.set_cons_succ, List.getElem_toArray, List.getElem_cons_succ, List.getElem_cons_zero]
            refine wpAnyT_ready (rs := [8]) (by kernel_rfl) (by simp) ?_
            refine AllReadyT.cons rfl (fun K hK => ?_) AllReadyT.nil
            go_simp
            (go_at_call 15; ((refine (CP.out _ _ _ Qb12.out).mono ?_); rintro e wc ⟨A20, l20, c20, rfl, hX, hb⟩))
            have Vc5 := Lib.hid (Vb5.out.under hb)
            have Vc12 := Lib.hid (Vb12.out.under hb)
            have Vc13 := Lib.hid (Vb13.out.under hb)
            have Vc14 := Lib.hid (Vb14.out.under hb)
            have Qc5 := Lib.hid ((Qb5.out.below hb).more hb.size)
            have Qc12 := Lib.hid ((Qb12.out.below hb).more hb.size)
            have Qc13 := Lib.hid ((Qb13.out.below hb).more hb.size)
            have Qc14 := Lib.hid ((Qb14.out.below hb).more hb.size)
            have BZc := Lib.hid (BZb.out.trans (hb.mono BZb.out.size))
            have X20 := Lib.hid hX
            clear hX
            clear hb
            go_wp2_with fail
            refine hK.out _ _ ⟨Vc5.out.var.cell, Vc12.out.var.cell, Vc13.out.var.cell, Vc14.out.var.cell⟩ (fun hHeld => ?_)
            clear hK K
            try simp only [Act.put, List.setIfInBounds_toArray, List.set_cons_zero, List.set_cons_succ, List.getElem_toArray, List.getElem_cons_succ, List.getElem_cons_zero]
            refine wpAnyT_ready (rs := [10]) (by kernel_rfl) (by simp) ?_
            refine AllReadyT.cons rfl (fun K hK => ?_) AllReadyT.nil
            go_simp
            (go_at_call 14; ((refine (CX1.out _ _ _ _ X20.out Qc13.out).mono ?_); rintro e wd2 ⟨rfl, hb⟩))
            have Vd25 := Lib.hid (Vc5.out.under hb)
            have Vd212 := Lib.hid (Vc12.out.under hb)
            have Vd213 := Lib.hid (Vc13.out.under hb)
            have Vd214 := Lib.hid (Vc14.out.under hb)
            have Qd25 := Lib.hid ((Qc5.out.below hb).more hb.size)
            have Qd212 := Lib.hid ((Qc12.out.below hb).more hb.size)
            have Qd213 := Lib.hid ((Qc13.out.below hb).more hb.size)
            have Qd214 := Lib.hid ((Qc14.out.below hb).more hb.size)
            have BZd2 := Lib.hid (BZc.out.trans (hb.mono BZc.out.size))
            clear hb
            go_wp2_with fail
            refine hK.out _ _ ⟨Vd25.out.var.cell, Vd212.out.var.cell, Vd213.out.var.cell, Vd214.out.var.cell⟩ (fun hHeld => ?_)
            clear hK K
            try simp only [Act.put, List.setIfInBounds_toArray, List.set_cons_zero, List.set_cons_succ, List.getElem_toArray, List.getElem_cons_succ, List.getElem_cons_zero]
            refine wpAnyT_take (i := 11) (v := ?_) rfl (by kernel_rfl) (by kernel_rfl) (by kernel_rfl) (fun _ _ _ h => h) (Or.inl ⟨by rfl, ?_⟩) (by assumption) ?_
            rotate_left 1
            · intro w hSw; clear hSw; go_simp <;> (with_reducible rfl)
            try simp only [Act.put, List.setIfInBounds_toArray, List.set_cons_zero, List.set_cons_succ, List.getElem_toArray, List.getElem_cons_succ, List.getElem_cons_zero]
            refine wpAnyT_take (i := 12) (v := ?_) rfl (by kernel_rfl) (by kernel_rfl) (by kernel_rfl) (fun _ _ _ h => h) (Or.inl ⟨by rfl, ?_⟩) (by assumption) ?_
            rotate_left 1
            · intro w hSw; clear hSw; go_simp <;> (with_reducible rfl)
            try simp only [Act.put, List.setIfInBounds_toArray, List.set_cons_zero, List.set_cons_succ, List.getElem_toArray, List.getElem_cons_succ, List.getElem_cons_zero]
            refine wpAnyT_take (i := 13) (v := ?_) rfl (by kernel_rfl) (by kernel_rfl) (by kernel_rfl) (fun _ _ _ h => h) (Or.inl ⟨by rfl, ?_⟩) (by assumption) ?_
            rotate_left 1
            · intro w hSw; obtain ⟨hs1, hs2, hs3, hs4⟩ := hSw; go_simp <;> (with_reducible rfl)
            try simp only [Act.put, List.setIfInBounds_toArray, List.set_cons_zero, List.set_cons_succ, List.getElem_toArray, List.getElem_cons_succ, List.getElem_cons_zero]
            refine wpAnyT_take (i := 14) (v := ?_) rfl (by kernel_rfl) (by kernel_rfl) (by kernel_rfl) (fun _ _ _ h => h) (Or.inl ⟨by rfl, ?_⟩) (by assumption) ?_
            rotate_left 1
            · intro w hSw; clear hSw; go_simp <;> (with_reducible rfl)
            try simp only [Act.put, List.setIfInBounds_toArray, List.set_cons_zero, List.set_cons_succ, List.getElem_toArray, List.getElem_cons_succ, List.getElem_cons_zero]
            refine wpAnyT_take (i := 16) (v := ?_) rfl (by kernel_rfl) (by kernel_rfl) (by kernel_rfl) (fun _ _ _ h => h) (Or.inl ⟨by rfl, ?_⟩) (by assumption) ?_
            rotate_left 1
            · intro w hSw; obtain ⟨hs1, hs2, hs3, hs4⟩ := hSw; go_simp <;> (with_reducible rfl)
            try simp only [Act.put, List.setIfInBounds_toArray, List.set_cons_zero, List.set_cons_succ, List.getElem_toArray, List.getElem_cons_succ, List.getElem_cons_zero]
            refine wpAnyT_ready (rs := [15]) (by kernel_rfl) (by simp) ?_
            refine AllReadyT.cons rfl (fun K hK => ?_) AllReadyT.nil
            go_simp
            (go_at_call 16; ((refine (CM.out _ _ _ Qd212.out).mono ?_); rintro e we2 ⟨A21, l21, c21, rfl, hX, hb⟩))
            have Ve25 := Lib.hid (Vd25.out.under hb)
            have Ve212 := Lib.hid (Vd212.out.under hb)
            have Ve213 := Lib.hid (Vd213.out.under hb)
            have Ve214 := Lib.hid (Vd214.out.under hb)
            have Qe25 := Lib.hid ((Qd25.out.below hb).more hb.size)
            have Qe212 := Lib.hid ((Qd212.out.below hb).more hb.size)
            have Qe213 := Lib.hid ((Qd213.out.below hb).more hb.size)
            have Qe214 := Lib.hid ((Qd214.out.below hb).more hb.size)
            have BZe2 := Lib.hid (BZd2.out.trans (hb.mono BZd2.out.size))
            have X21 := Lib.hid hX
            clear hX
            clear hb
            go_wp2_with fail
            refine hK.out _ _ ⟨Ve25.out.var.cell, Ve212.out.var.cell, Ve213.out.var.cell, Ve214.out.var.cell⟩ (fun hHeld => ?_)
            clear hK K
            try simp only [Act.put, List.setIfInBounds_toArray, List.set_cons_zero, List.set_cons_succ, List.getElem_toArray, List.getElem_cons_succ, List.getElem_cons_zero]
            refine wpAnyT_ready (rs := [17]) (by kernel_rfl) (by simp) ?_
            refine AllReadyT.cons rfl (fun K hK => ?_) AllReadyT.nil
            go_simp
            (go_at_call 14; ((refine (CX2.out _ _ _ _ X21.out Qe214.out).mono ?_); rintro e wf2 ⟨rfl, hb⟩))
            have Vf25 := Lib.hid (Ve25.out.under hb)
            have Vf212 := Lib.hid (Ve212.out.under hb)
            have Vf213 := Lib.hid (Ve213.out.under hb)
            have Vf214 := Lib.hid (Ve214.out.under hb)
            have Qf25 := Lib.hid ((Qe25.out.below hb).more hb.size)
            have Qf212 := Lib.hid ((Qe212.out.below hb).more hb.size)
            have Qf213 := Lib.hid ((Qe213.out.below hb).more hb.size)
            have Qf214 := Lib.hid ((Qe214.out.below hb).more hb.size)
            have BZf2 := Lib.hid (BZe2.out.trans (hb.mono BZe2.out.size))
            clear hb
            go_wp2_with fail
            refine hK.out _ _ ⟨Vf25.out.var.cell, Vf212.out.var.cell, Vf213.out.var.cell, Vf214.out.var.cell⟩ (fun hHeld => ?_)
            clear hK K
            try simp only [Act.put, List.setIfInBounds_toArray, List.set_cons_zero, List.set_cons_succ, List.getElem_toArray, List.getElem_cons_succ, List.getElem_cons_zero]
            refine wpAnyT_take (i := 18) (v := ?_) rfl (by kernel_rfl) (by kernel_rfl) (by kernel_rfl) (fun _ _ _ h => h) (Or.inl ⟨by rfl, ?_⟩) (by assumption) ?_
            rotate_left 1
            · intro w hSw; clear hSw; go_simp <;> (with_reducible rfl)
            try simp only [Act.put, List.setIfInBounds_toArray, List.set_cons_zero, List.set_cons_succ, List.getElem_toArray, List.getElem_cons_succ, List.getElem_cons_zero]
            refine wpAnyT_take (i := 19) (v := ?_) rfl (by kernel_rfl) (by kernel_rfl) (by kernel_rfl) (fun _ _ _ h => h) (Or.inl ⟨by rfl, ?_⟩) (by assumption) ?_
            rotate_left 1
            · intro w hSw; clear hSw; go_simp <;> (with_reducible rfl)
            try simp only [Act.put, List.setIfInBounds_toArray, List.set_cons_zero, List.set_cons_succ, List.getElem_toArray, List.getElem_cons_succ, List.getElem_cons_zero]
            refine wpAnyT_take (i := 20) (v := ?_) rfl (by kernel_rfl) (by kernel_rfl) (by kernel_rfl) (fun _ _ _ h => h) (Or.inl ⟨by rfl, ?_⟩) (by assumption) ?_
            rotate_left 1
            · intro w hSw; obtain ⟨hs1, hs2, hs3, hs4⟩ := hSw; go_simp <;> (with_reducible rfl)
            try simp only [Act.put, List.setIfInBounds_toArray, List.set_cons_zero, List.set_cons_succ, List.getElem_toArray, List.getElem_cons_succ, List.getElem_cons_zero]
            refine wpAnyT_take (i := 22) (v := ?_) rfl (by kernel_rfl) (by kernel_rfl) (by kernel_rfl) (fun _ _ _ h => h) (Or.inl ⟨by rfl, ?_⟩) (by assumption) ?_
            rotate_left 1
            · intro w hSw; clear hSw; go_simp <;> (with_reducible rfl)
            try simp only [Act.put, List.setIfInBounds_toArray, List.set_cons_zero, List.set_cons_succ, List.getElem_toArray, List.getElem_cons_succ, List.getElem_cons_zero]
            refine wpAnyT_ready (rs := [21]) (by kernel_rfl) (by simp) ?_
            refine AllReadyT.cons rfl (fun K hK => ?_) AllReadyT.nil
            go_simp
            (go_at_call 17; ((refine (CO.out _ _ _ Qf212.out).mono ?_); rintro e wg2 ⟨rfl, hb⟩))
            have Vg25 := Lib.hid (Vf25.out.under hb)
            have Vg212 := Lib.hid (Vf212.out.under hb)
            have Vg213 := Lib.hid (Vf213.out.under hb)
            have Vg214 := Lib.hid (Vf214.out.under hb)
            have Qg25 := Lib.hid ((Qf25.out.below hb).more hb.size)
            have Qg212 := Lib.hid ((Qf212.out.below hb).more hb.size)
            have Qg213 := Lib.hid ((Qf213.out.below hb).more hb.size)
            have Qg214 := Lib.hid ((Qf214.out.below hb).more hb.size)
            have BZg2 := Lib.hid (BZf2.out.trans (hb.mono BZf2.out.size))
            clear hb
            go_wp2_with fail
            refine hK.out _ _ ⟨Vg25.out.var.cell, Vg212.out.var.cell, Vg213.out.var.cell, Vg214.out.var.cell⟩ (fun hHeld => ?_)
            clear hK K
            try simp only [Act.put, List.setIfInBounds_toArray, List.set_cons_zero, List.set_cons_succ, List.getElem_toArray, List.getElem_cons_succ, List.getElem_cons_zero]
            refine wpAnyT_take (i := 23) (v := ?_) rfl (by kernel_rfl) (by kernel_rfl) (by kernel_rfl) (fun _ _ _ h => h) (Or.inl ⟨by rfl, ?_⟩) (by assumption) ?_
            rotate_left 1
            · intro w hSw; clear hSw; go_simp <;> (with_reducible rfl)
            try simp only [Act.put, List.setIfInBounds_toArray, List.set_cons_zero, List.set_cons_succ, List.getElem_toArray, List.getElem_cons_succ, List.getElem_cons_zero]
            refine wpAnyT_take (i := 24) (v := ?_) rfl (by kernel_rfl) (by kernel_rfl) (by kernel_rfl) (fun _ _ _ h => h) (Or.inl ⟨by rfl, ?_⟩) (by assumption) ?_
            rotate_left 1
            · intro w hSw; clear hSw; go_simp <;> (with_reducible rfl)
            try simp only [Act.put, List.setIfInBounds_toArray, List.set_cons_zero, List.set_cons_succ, List.getElem_toArray, List.getElem_cons_succ, List.getElem_cons_zero]
            refine wpAnyT_take (i := 25) (v := ?_) rfl (by kernel_rfl) (by kernel_rfl) (by kernel_rfl) (fun _ _ _ h => h) (Or.inl ⟨by rfl, ?_⟩) (by assumption) ?_
            rotate_left 1
            · intro w hSw; clear hSw; go_simp <;> (with_reducible rfl)
            try simp only [Act.put, List.setIfInBounds_toArray, List.set_cons_zero, List.set_cons_succ, List.getElem_toArray, List.getElem_cons_succ, List.getElem_cons_zero]
            refine wpAnyT_take (i := 26) (v := ?_) rfl (by kernel_rfl) (by kernel_rfl) (by kernel_rfl) (fun _ _ _ h => h) (Or.inl ⟨by rfl, ?_⟩) (by assumption) ?_
            rotate_left 1
            · intro w hSw; obtain ⟨hs1, hs2, hs3, hs4⟩ := hSw; go_simp <;> (with_reducible rfl)
            try simp only [Act.put, List.setIfInBounds_toArray, List.set_cons_zero, List.set_cons_succ, List.getElem_toArray, List.getElem_cons_succ, List.getElem_cons_zero]
            refine wpAnyT_take (i := 28) (v := ?_) rfl (by kernel_rfl) (by kernel_rfl) (by kernel_rfl) (fun _ _ _ h => h) (Or.inl ⟨by rfl, ?_⟩) (by assumption) ?_
            rotate_left 1
            · intro w hSw; clear hSw; go_simp <;> (with_reducible rfl)
            try simp only [Act.put, List.setIfInBounds_toArray, List.set_cons_zero, List.set_cons_succ, List.getElem_toArray, List.getElem_cons_succ, List.getElem_cons_zero]
            refine wpAnyT_ready (rs := [27]) (by kernel_rfl) (by simp) ?_
            refine AllReadyT.cons rfl (fun K hK => ?_) AllReadyT.nil
            go_simp
            (go_at_call 11; ((refine (CT.out _ _ _ Qg212.out).mono ?_); rintro e wh2 ⟨rfl, hb⟩))
            have Vh25 := Lib.hid (Vg25.out.under hb)
            have Vh212 := Lib.hid (Vg212.out.under hb)
            have Vh213 := Lib.hid (Vg213.out.under hb)
            have Vh214 := Lib.hid (Vg214.out.under hb)
            have Qh25 := Lib.hid ((Qg25.out.below hb).more hb.size)
            have Qh212 := Lib.hid ((Qg212.out.below hb).more hb.size)
            have Qh213 := Lib.hid ((Qg213.out.below hb).more hb.size)
            have Qh214 := Lib.hid ((Qg214.out.below hb).more hb.size)
            have BZh2 := Lib.hid (BZg2.out.trans (hb.mono BZg2.out.size))
            clear hb
            go_wp2_with fail
            refine hK.out _ _ ⟨Vh25.out.var.cell, Vh212.out.var.cell, Vh213.out.var.cell, Vh214.out.var.cell⟩ (fun hHeld => ?_)
            clear hK K
            try simp only [Act.put, List.setIfInBounds_toArray, List.set_cons_zero, List.set_cons_succ, List.getElem_toArray, List.getElem_cons_succ, List.getElem_cons_zero]
            refine wpAnyT_take (i := 29) (v := ?_) rfl (by kernel_rfl) (by kernel_rfl) (by kernel_rfl) (fun _ _ _ h => h) (Or.inl ⟨by rfl, ?_⟩) (by assumption) ?_
            rotate_left 1
            · intro w hSw; clear hSw; go_simp <;> (with_reducible rfl)
            try simp only [Act.put, List.setIfInBounds_toArray, List.set_cons_zero, List.set_cons_succ, List.getElem_toArray, List.getElem_cons_succ, List.getElem_cons_zero]
            refine wpAnyT_take (i := 30) (v := ?_) rfl (by kernel_rfl) (by kernel_rfl) (by kernel_rfl) (fun _ _ _ h => h) (Or.inl ⟨by rfl, ?_⟩) (by assumption) ?_
            rotate_left 1
            · intro w hSw; clear hSw; go_simp <;> (with_reducible rfl)
            try simp only [Act.put, List.setIfInBounds_toArray, List.set_cons_zero, List.set_cons_succ, List.getElem_toArray, List.getElem_cons_succ, List.getElem_cons_zero]
            refine wpAnyT_take (i := 31) (v := ?_) rfl (by kernel_rfl) (by kernel_rfl) (by kernel_rfl) (fun _ _ _ h => h) (Or.inl ⟨by rfl, ?_⟩) (by assumption) ?_
            rotate_left 1
            · intro w hSw; clear hSw; go_simp <;> (with_reducible rfl)
            try simp only [Act.put, List.setIfInBounds_toArray, List.set_cons_zero, List.set_cons_succ, List.getElem_toArray, List.getElem_cons_succ, List.getElem_cons_zero]
            refine wpAnyT_take (i := 32) (v := ?_) rfl (by kernel_rfl) (by kernel_rfl) (by kernel_rfl) (fun _ _ _ h => h) (Or.inl ⟨by rfl, ?_⟩) (by assumption) ?_
            rotate_left 1
            · intro w hSw; obtain ⟨hs1, hs2, hs3, hs4⟩ := hSw; go_simp <;> (with_reducible rfl)
            try simp only [Act.put, List.setIfInBounds_toArray, List.set_cons_zero, List.set_cons_succ, List.getElem_toArray, List.getElem_cons_succ, List.getElem_cons_zero]
            refine wpAnyT_take (i := 33) (v := ?_) rfl (by kernel_rfl) (by kernel_rfl) (by kernel_rfl) (fun _ _ _ h => h) (Or.inl ⟨by rfl, ?_⟩) (by assumption) ?_
            rotate_left 1
            · intro w hSw; obtain ⟨hs1, hs2, hs3, hs4⟩ := hSw; go_simp <;> (with_reducible rfl)
            try simp only [Act.put, List.setIfInBounds_toArray, List.set_cons_zero, List.set_cons_succ, List.getElem_toArray, List.getElem_cons_succ, List.getElem_cons_zero]
            refine wpAnyT_ready (rs := [34]) (by kernel_rfl) (by simp) ?_
            refine AllReadyT.cons rfl (fun K hK => ?_) AllReadyT.nil
            go_simp
            (go_at_call 14; ((refine (CX3.out _ _ _ Qh212.out Qh25.out).mono ?_); rintro e wi2 ⟨rfl, hb⟩))
            have Vi25 := Lib.hid (Vh25.out.under hb)
            have Vi212 := Lib.hid (Vh212.out.under hb)
            have Vi213 := Lib.hid (Vh213.out.under hb)
            have Vi214 := Lib.hid (Vh214.out.under hb)
            have Qi25 := Lib.hid ((Qh25.out.below hb).more hb.size)
            have Qi212 := Lib.hid ((Qh212.out.below hb).more hb.size)
            have Qi213 := Lib.hid ((Qh213.out.below hb).more hb.size)
            have Qi214 := Lib.hid ((Qh214.out.below hb).more hb.size)
            have BZi2 := Lib.hid (BZh2.out.trans (hb.mono BZh2.out.size))
            clear hb
            go_wp2_with fail
            refine hK.out _ _ ⟨Vi25.out.var.cell, Vi212.out.var.cell, Vi213.out.var.cell, Vi214.out.var.cell⟩ (fun hHeld => ?_)
            clear hK K
            try simp only [Act.put, List.setIfInBounds_toArray, List.set_cons_zero, List.set_cons_succ, List.getElem_toArray, List.getElem_cons_succ, List.getElem_cons_zero]
            refine wpAnyT_take (i := 35) (v := ?_) rfl (by kernel_rfl) (by kernel_rfl) (by kernel_rfl) (fun _ _ _ h => h) (Or.inl ⟨by rfl, ?_⟩) (by assumption) ?_
            rotate_left 1
            · intro w hSw; clear hSw; go_simp <;> (with_reducible rfl)
            try simp only [Act.put, List.setIfInBounds_toArray, List.set_cons_zero, List.set_cons_succ, List.getElem_toArray, List.getElem_cons_succ, List.getElem_cons_zero]
            refine wpAnyT_take (i := 36) (v := ?_) rfl (by kernel_rfl) (by kernel_rfl) (by kernel_rfl) (fun _ _ _ h => h) (Or.inl ⟨by rfl, ?_⟩) (by assumption) ?_
            rotate_left 1
            · intro w hSw; clear hSw; go_simp <;> (with_reducible rfl)
            try simp only [Act.put, List.setIfInBounds_toArray, List.set_cons_zero, List.set_cons_succ, List.getElem_toArray, List.getElem_cons_succ, List.getElem_cons_zero]
            refine wpAnyT_done (by kernel_rfl) ?_ _
            go_wp2_with fail
            go_ret
            exact ⟨rfl, BZi2.out⟩
end Go.Proofs.Ytgfhpdgohjnooaa.smoothSteps
