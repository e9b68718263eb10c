/- The walk of the law SmoothBounds: any window, any speeds: it returns true, and what was in memory is as it was. -/
import Derived.Test.YtgfhpdgohjnooaaMAwake
import Derived.Test.YtgfhpdgohjnooaaMRow16
namespace Go.Proofs.Ytgfhpdgohjnooaa.smoothBounds
open Go.ChangeShapes Go.WideShapes Go.ChangeAt Go.RowKit Go.Proofs.Ytgfhpdgohjnooaa.k Go.Proofs.Ytgfhpdgohjnooaa.mm Go.Proofs.Ytgfhpdgohjnooaa
set_option linter.unusedVariables false

/-- the way's places -/
def pl (f : Int) (zs : List Int) : Nat → Int
  | 0 => f
  | r + 1 => pl f zs r + zs.getD r 0
theorem pl_in (f : Int) (zs : List Int) : ∀ j : Nat, (∀ r, r < j → -32768 ≤ zs.getD r 0 ∧ zs.getD r 0 ≤ 32767) → f - 32768 * (j : Int) ≤ pl f zs j ∧ pl f zs j ≤ f + 32768 * (j : Int)
  | 0, _ => by simp [pl]
  | j + 1, h => by
    have h1 := pl_in f zs j fun r hr => h r (by omega)
    have h2 := h j (by omega)
    simp only [pl]
    omega
theorem pl_df (f : Int) (zs : List Int) (j : Nat) : df (pl f zs) (j + 1) = zs.getD j 0 := by
  unfold df
  rw [show j + 1 - 1 = j from rfl]
  simp only [pl]
  omega
theorem win_right {p : Nat → Int} {m i : Nat} (h1 : 1 ≤ m) (h2 : m ≤ 16) (h : ∀ j, j ≤ i → inP (p j)) : RightW (win p m i) := by
  refine ⟨by rw [win_len]; omega, by rw [win_len]; omega, fun x hx => ?_⟩
  unfold win at hx
  obtain ⟨k, _, rfl⟩ := List.mem_map.1 hx
  exact h _ (by omega)
theorem win_start (p : Nat → Int) (m : Nat) : win p m 0 = List.replicate m (p 0) := by
  unfold win
  apply List.ext_getElem?
  intro j
  rw [List.getElem?_map]
  by_cases h : j < m
  · rw [List.getElem?_range h, List.getElem?_replicate, if_pos h]
    simp
  · rw [List.getElem?_eq_none (by simp; omega), List.getElem?_eq_none (by simp; omega)]
    rfl
theorem win_step {p : Nat → Int} {m i : Nat} (h1 : 1 ≤ m) : p (i + 1) :: (win p m i).take ((win p m i).length - 1) = win p m (i + 1) := by
  obtain ⟨n, rfl⟩ : ∃ n, m = n + 1 := ⟨m - 1, by omega⟩
  rw [win_push, win_len]
  rfl
theorem win_out {p : Nat → Int} {m i : Nat} (h : RightW (win p m i)) : outW (win p m i) = out p m i := by rw [outW_yes h, win_sum]
/-- how far off a sum of places is -/
theorem out_in {p : Nat → Int} {m i : Nat} (h2 : m ≤ 16) (h : ∀ j, j ≤ i → inP (p j)) : -35184372088832 ≤ out p m i ∧ out p m i ≤ 35184372088832 := by
  have := out_between (p := p) (m := m) (i := i) (lo := -2199023255552) (hi := 2199023255552) fun k _ => h _ (by omega)
  omega
theorem mul_in {q a lo hi : Int} (hq : 1 ≤ q) (hq2 : q ≤ 16) (ha : lo ≤ a) (hb : a ≤ hi) (h0 : lo ≤ 0) (h1 : 0 ≤ hi) : 16 * lo ≤ q * a ∧ q * a ≤ 16 * hi := by
  have e1 : q * a ≤ q * hi := Int.mul_le_mul_of_nonneg_left hb (by omega)
  have e2 : q * lo ≤ q * a := Int.mul_le_mul_of_nonneg_left ha (by omega)
  have e3 : q * hi ≤ 16 * hi := Int.mul_le_mul_of_nonneg_right hq2 h1
  have e4 : 16 * lo ≤ q * lo := Int.mul_le_mul_of_nonpos_right hq2 h0
  exact ⟨Int.le_trans e4 e2, Int.le_trans e1 e3⟩

theorem tests {MX MG C W1 B1 G1 : Int} (mv : W1 ≤ MX ∧ -W1 ≤ MX) (gv : B1 ≤ MG ∧ -B1 ≤ MG) (jv : B1 - C ≤ 2 * G1 ∧ C - B1 ≤ 2 * G1) :
    decide (MX < W1) = false ∧ decide (MX < -W1) = false ∧ decide (MG < B1) = false ∧ decide (MG < -B1) = false ∧ decide (2 * G1 < B1 - C) = false ∧ decide (2 * G1 < C - B1) = false :=
  ⟨decide_eq_false (by omega), decide_eq_false (by omega), decide_eq_false (by omega), decide_eq_false (by omega), decide_eq_false (by omega), decide_eq_false (by omega)⟩
/-- the greatest of three -/
theorem max3 {P : Program} (w : World) (ts : Array TypeId) (t : TypeId) (x y z : Int) : (Builtin.max_ ts t #[.int .i64 x, .int .i64 y, .int .i64 z]).run P w = .ok (.int .i64 (max (max x y) z)) w := by
  have e : ∀ a b : Int, (if b > a then b else a) = max a b := fun a b => by
    rw [Int.max_def]
    split <;> split <;> omega
  simp [Builtin.max_, Builtin.max2, e]
theorem df_first (p : Nat → Int) : ∀ j, j ≤ 0 → df p j ≤ 0 ∧ -df p j ≤ 0 := fun j hj => by
  have : j = 0 := by omega
  subst this
  rw [df_zero]
  omega
theorem gn_first (p : Nat → Int) : ∀ j, j ≤ 0 → gn p j ≤ 0 ∧ -gn p j ≤ 0 := fun j hj => by
  have : j = 0 := by omega
  subst this
  rw [gn_zero]
  omega
set_option maxHeartbeats 4000000 in
set_option maxRecDepth 100000 in
theorem walk (m f : Int) (a : Option Addr) (len cap : Nat) (zs : List Int) (w : World) (u0 : (Lit.int .i64 m).wf = true) (u1 : (Lit.int .i64 f).wf = true) (u2 : IsRow .i16 w a len cap zs) :
    Calls Try.prog 4 #[.int .i64 m, .int .i64 f, .slice a len cap] w fun e w' => e = .returned (.bool true) ∧ Below w.heap.size w w' := by
  have HK := Lib.hid fun W => awake_any W
  have hm := k.wf64 u0
  have hlen := u2.len
  have HROW := Lib.hid u2
  clear u0 u1 u2
  by_cases f1 : f < -1099511627776
  · go_enter Try.func4, Try.ntmps4
    go_wp2_with (go_at_call 8; ((with_reducible refine (HK.out _).mono ?_); rintro e w2 ⟨rfl, hb⟩; have H2 := Lib.hid hb; clear hb))
    go_ret
    exact ⟨rfl, H2.out⟩
  by_cases f2 : 1099511627776 < f
  · have hd : decide (f < -1099511627776) = false := decide_eq_false f1
    go_enter Try.func4, Try.ntmps4
    go_wp2_with (go_at_call 8; ((with_reducible refine (HK.out _).mono ?_); rintro e w2 ⟨rfl, hb⟩; have H2 := Lib.hid hb; clear hb))
    go_ret
    exact ⟨rfl, H2.out⟩
  have hd : decide (f < -1099511627776) = false := decide_eq_false f1
  have hd2 : decide (1099511627776 < f) = false := decide_eq_false f2
  by_cases hm1 : 1 ≤ m ∧ m ≤ 16
  case neg =>
    have HN := Lib.hid fun W => new_no (m := m) (p := f) (fun h => hm1 ⟨h.1, h.2.1⟩) W
    clear hm1
    go_enter Try.func4, Try.ntmps4
    go_wp2_with (first | (go_at_call 8; ((with_reducible refine (HK.out _).mono ?_); rintro e w2 ⟨rfl, hb⟩; have H2 := Lib.hid hb; clear hb)) | (go_at_call 9; ((with_reducible refine (HN.out _).mono ?_); rintro e w4 ⟨A4, l4, c4, rfl, _, hb⟩; have H4 := Lib.hid (H2.out.trans (hb.mono H2.out.size)); clear hb)))
    go_ret
    exact ⟨rfl, H4.out.alloc H4.out.size _⟩
  case pos =>
    obtain ⟨m1, m2⟩ := hm1
    have hf : inP f := ⟨by omega, by omega⟩
    obtain ⟨M, rfl⟩ : ∃ M : Nat, m = (M : Int) := ⟨m.toNat, by omega⟩
    have hN := fun W => new_yes m1 m2 hf W
    rw [show (M : Int).toNat = M from rfl] at hN
    have HN := Lib.hid hN
    have hin : ∀ j, j ≤ len → j ≤ 300 → inP (pl f zs j) := fun j h1 h3 => by
      by_cases h0 : 0 < len
      · obtain ⟨b, off, _, _, hr⟩ := HROW.out.at h0
        have := pl_in f zs j fun r hr2 => by
          obtain ⟨x, rfl, hx, _⟩ := hr r (by omega)
          exact hx
        exact ⟨by omega, by omega⟩
      · have : j = 0 := by omega
        subst this
        exact hf
    have HI := Lib.hid hin
    have HM := Lib.hid (show 1 ≤ M ∧ M ≤ 16 by omega)
    have HO := Lib.hid (show RightW (List.replicate M f) from rep_right (by omega) (by omega) hf)
    have HF := Lib.hid hf
    have E0 := Lib.hid (show win (pl f zs) M 0 = List.replicate M f from win_start _ _)
    obtain ⟨p, hp⟩ : ∃ p, pl f zs = p := ⟨_, rfl⟩
    have H01 := Lib.hid (show p 0 = f by rw [← hp]; rfl)
    have HST := Lib.hid (show ∀ r, p (r + 1) = p r + zs.getD r 0 from fun r => by rw [← hp]; rfl)
    have HDF := Lib.hid (show ∀ j, df p (j + 1) = zs.getD j 0 from fun j => by rw [← hp]; exact pl_df f zs j)
    rw [hp] at HI E0
    have C0 : Hid (out p M 0 = outW (List.replicate M f)) := Lib.hid (by rw [← E0.out, win_out (by rw [E0.out]; exact HO.out)])
    have O1 := Lib.hid fun (W : World) (B : Nat) (A : Option Addr) (l c : Nat) (h : Win W B A l c (List.replicate M f)) (hB : B ≤ W.heap.size) => C0.out ▸ out_any _ h hB
    have ob0 := out_in (p := p) (m := M) (i := 0) HM.out.2 fun j hj => HI.out j (by omega) (by omega)
    have HOB := Lib.hid ob0
    obtain ⟨z, hz⟩ : ∃ z, out p M 0 = z := ⟨_, rfl⟩
    have HZ := Lib.hid hz
    rw [hz] at ob0 O1
    clear hN hin hf hp hz C0
    go_enter Try.func4, Try.ntmps4
    go_wp2_with (first | (go_at_call 8; ((with_reducible refine (HK.out _).mono ?_); rintro e w2 ⟨rfl, hb⟩; have H2 := Lib.hid hb; clear hb)) | (go_at_call 9; ((with_reducible refine (HN.out _).mono ?_); rintro e w4 ⟨A4, l4, c4, rfl, hW4, hb⟩; have W4 := Lib.hid hW4; have H4 := Lib.hid (H2.out.trans (hb.mono H2.out.size)); clear hW4 hb)) | (go_at_call 17; fail))
    obtain ⟨x5, e5, v5, b5, z5⟩ := made w4 (.slice A4 l4 c4) 24
    rw [e5]
    have W5 := Lib.hid ((W4.out.below b5).more (B' := x5.heap.size) (by omega))
    have H5 := Lib.hid (H4.out.trans (b5.mono H4.out.size))
    have hg : w.heap.size ≤ w4.heap.size := H4.out.size
    obtain ⟨g, hgg⟩ : ∃ g, w4.heap.size = g := ⟨_, rfl⟩
    rw [hgg] at v5 hg ⊢
    refine (O1.out _ _ _ _ _ W5.out (Nat.le_refl _)).mono ?_
    rintro e w6 ⟨rfl, hb⟩
    have V6 := Lib.hid (v5.under hb)
    have W6 := Lib.hid ((W5.out.below hb).more hb.size)
    have H6 := Lib.hid (H5.out.trans (hb.mono H5.out.size))
    clear e5 b5 z5 v5 hgg hb
    go_wp2
    go_loopw [9, 10, 11, 12, 13, 14, 15, 16] (fun s9 s10 s11 s12 s13 s14 s15 s16 wr => ∃ (q : Nat) (P D O V C X G : Int) (A : Option Addr) (l c : Nat), q ≤ len ∧ q ≤ 300 ∧ s16 = .int .i64 q ∧ s9 = .int .i64 P ∧ s10 = .int .i64 D ∧ s11 = .int .i64 O ∧ s12 = .int .i64 V ∧ s13 = .int .i64 C ∧ s14 = .int .i64 X ∧ s15 = .int .i64 G ∧
      p q = P ∧ df p q = D ∧ out p M q = O ∧ out p M q - out p M (q - 1) = V ∧ V - (out p M (q - 1) - out p M (q - 1 - 1)) = C ∧ (0 ≤ X ∧ X ≤ 32768 ∧ ∀ j, j ≤ q → df p j ≤ X ∧ -df p j ≤ X) ∧ (0 ≤ G ∧ G ≤ 65536 ∧ ∀ j, j ≤ q → gn p j ≤ G ∧ -gn p j ≤ G) ∧ Win wr wr.heap.size A l c (win p M q) ∧ Var wr g (.slice A l c) ∧ Below w.heap.size w wr) (fun _ _ _ _ _ _ _ s16 _ => len - (intOf s16).toNat)
    case atStart => exact ⟨0, f, 0, z, 0, 0, 0, 0, A4, l4, c4, Nat.zero_le _, by omega, rfl, rfl, rfl, rfl, rfl, rfl, rfl, rfl, H01.out, df_zero p, HZ.out, by simp, by simp, ⟨by omega, by omega, df_first p⟩, ⟨by omega, by omega, gn_first p⟩, by rw [E0.out]; exact W6.out, V6.out, H6.out⟩
    case round =>
      obtain ⟨q, P, D, O, V, C, X, G, A, l, c, hq, hq3, rfl, rfl, rfl, rfl, rfl, rfl, rfl, rfl, hP, hD, hO, hV, hC, ⟨hX0, hX1, hX⟩, ⟨hG0, hG1, hG⟩, hW, hVa, hB⟩ := hrel
      clear W4 W5 W6 H4 H5 V6 H6 HN HK H2 O1 HOB HZ HO E0 H01
      have HW := Lib.hid hW
      have HV := Lib.hid hVa
      have HB := Lib.hid hB
      have HXX := Lib.hid hX
      have HGG := Lib.hid hG
      have HE := Lib.hid (And.intro hP (And.intro hD (And.intro hO (And.intro hV hC))))
      clear hW hVa hB hX hG
      by_cases hlt : q < len ∧ q < 300
      case neg =>
        have hdd : (decide (q < len) = false) ∨ ((q : Int) < (len : Int) ∧ decide ((q : Int) < 300) = false) := by
          by_cases h : q < len
          · exact .inr ⟨by omega, decide_eq_false (by omega)⟩
          · exact .inl (decide_eq_false (by omega))
        clear hlt hP hD hO hV hC
        rcases hdd with hdd | ⟨hdd0, hdd⟩
        all_goals
          go_wp2
          go_ret
          exact ⟨rfl, HB.out⟩
      case pos =>
        obtain ⟨hlt, hlt3⟩ := hlt
        obtain ⟨b, off, rfl, hbw, hrow⟩ := HROW.out.at (by omega)
        obtain ⟨x, hxz, hx, hcell⟩ := hrow q hlt
        have hck : wr.cell? ⟨b, off + q, none⟩ = some (.int .i16 x) := (HB.out.cell (p := ⟨b, off + q, none⟩) hbw).trans hcell
        have hcc := HV.out.cell
        have hff := HV.out.frozen 0
        have hi0 : (0 : Int) ≤ (q : Int) := by omega
        have hi1 : (q : Int) < (len : Int) := by omega
        have hi3 : (q : Int) < 300 := by omega
        have hgs := HV.out.lt
        have hPin := HI.out q (by omega) (by omega)
        rw [hP] at hPin
        obtain ⟨hP1, hP2⟩ := hPin
        have hDb := HXX.out q (Nat.le_refl _)
        rw [hD] at hDb
        clear hrow hcell hP hD hO hV hC
        obtain ⟨X1, hX1e⟩ : ∃ X1, max (max X x) (-x) = X1 := ⟨_, rfl⟩
        obtain ⟨G1, hG1e⟩ : ∃ G1, max (max G (x - D)) (D - x) = G1 := ⟨_, rfl⟩
        have hmax := fun W ts t => max3 (P := Try.prog) W ts t X x (-x)
        have hmax2 := fun W ts t => max3 (P := Try.prog) W ts t G (x - D) (D - x)
        rw [hX1e] at hmax
        rw [hG1e] at hmax2
        have hXb : 0 ≤ X1 ∧ X1 ≤ 32768 ∧ X ≤ X1 ∧ x ≤ X1 ∧ -x ≤ X1 := by omega
        have hGb : 0 ≤ G1 ∧ G1 ≤ 65536 ∧ G ≤ G1 ∧ x - D ≤ G1 ∧ D - x ≤ G1 := by omega
        have hp1 : p (q + 1) = P + x := by rw [HST.out, HE.out.1, hxz]
        have hd1 : df p (q + 1) = x := (HDF.out q).trans hxz
        have hg1 : gn p (q + 1) = x - D := by
          unfold gn
          rw [hd1, show q + 1 - 1 = q from rfl, HE.out.2.1]
        have hXn : ∀ j, j ≤ q + 1 → df p j ≤ X1 ∧ -df p j ≤ X1 := fun j hj => by
          by_cases e : j = q + 1
          · subst e; rw [hd1]; exact ⟨hXb.2.2.2.1, hXb.2.2.2.2⟩
          · have := HXX.out j (by omega)
            omega
        have hGn : ∀ j, j ≤ q + 1 → gn p j ≤ G1 ∧ -gn p j ≤ G1 := fun j hj => by
          by_cases e : j = q + 1
          · subst e; rw [hg1]; omega
          · have := HGG.out j (by omega)
            omega
        have hR0 := win_right (p := p) (m := M) (i := q) HM.out.1 HM.out.2 fun j hj => HI.out j (by omega) (by omega)
        have hR1 := win_right (p := p) (m := M) (i := q + 1) HM.out.1 HM.out.2 fun j hj => HI.out j (by omega) (by omega)
        have hi1 : inP (p (q + 1)) := HI.out _ (by omega) (by omega)
        have hPu : pushW (win p M q) (P + x) = win p M (q + 1) := by rw [← hp1, pushW_yes hR0 hi1, win_step HM.out.1]
        have hOu := win_out hR1
        have ob1 := out_in (p := p) (m := M) (i := q + 1) HM.out.2 fun j hj => HI.out j (by omega) (by omega)
        have obO := out_in (p := p) (m := M) (i := q) HM.out.2 fun j hj => HI.out j (by omega) (by omega)
        have obP := out_in (p := p) (m := M) (i := q - 1) HM.out.2 fun j hj => HI.out j (by omega) (by omega)
        have obQ := out_in (p := p) (m := M) (i := q - 1 - 1) HM.out.2 fun j hj => HI.out j (by omega) (by omega)
        have mv := moves_in (m := M) (i := q + 1) hXn
        have gv := gains_in (m := M) (i := q + 1) hGn
        have jv := jerks_in (m := M) (i := q + 1) hGn
        rw [show q + 1 - 1 = q from rfl] at mv gv jv
        rw [HE.out.2.2.2.1, HE.out.2.2.1] at gv
        rw [HE.out.2.2.2.1, HE.out.2.2.2.2, HE.out.2.2.1] at jv
        rw [HE.out.2.2.1] at mv
        have eV := HE.out.2.2.2.1
        have eC := HE.out.2.2.2.2
        rw [HE.out.2.2.1] at obO eV
        obtain ⟨O1, hO1⟩ : ∃ O1, out p M (q + 1) = O1 := ⟨_, rfl⟩
        rw [hO1] at ob1 mv gv jv hOu
        obtain ⟨W1, hw1⟩ : ∃ W1, O1 - O = W1 := ⟨_, rfl⟩
        rw [hw1] at mv gv jv
        obtain ⟨B1, hb1⟩ : ∃ B1, W1 - V = B1 := ⟨_, rfl⟩
        rw [hb1] at gv jv
        have mx := mul_in (q := (M : Int)) (a := X1) (lo := 0) (hi := 32768) (by omega) (by omega) hXb.1 hXb.2.1 (by omega) (by omega)
        have mg := mul_in (q := (M : Int)) (a := G1) (lo := 0) (hi := 65536) (by omega) (by omega) hGb.1 hGb.2.1 (by omega) (by omega)
        obtain ⟨MX, eMX⟩ : ∃ MX, (M : Int) * X1 = MX := ⟨_, rfl⟩
        obtain ⟨MG, eMG⟩ : ∃ MG, (M : Int) * G1 = MG := ⟨_, rfl⟩
        rw [eMX] at mx mv
        rw [eMG] at mg gv
        have hmx : wrap64 ((M : Int) * X1) = MX := by rw [eMX]; exact IntWalk.wrap64_in _ (by omega)
        have hmg : wrap64 ((M : Int) * G1) = MG := by rw [eMG]; exact IntWalk.wrap64_in _ (by omega)
        have wb : -70368744177664 ≤ W1 ∧ W1 ≤ 70368744177664 := by omega
        have vb : -70368744177664 ≤ V ∧ V ≤ 70368744177664 := by omega
        have bb : -140737488355328 ≤ B1 ∧ B1 ≤ 140737488355328 := by omega
        have cb : -140737488355328 ≤ C ∧ C ≤ 140737488355328 := by omega
        obtain ⟨t1, t2, t3, t4, t5, t6⟩ := tests mv gv jv
        have PP := Lib.hid fun (W : World) (B : Nat) (h : Win W B A l c (win p M q)) (hB : B ≤ W.heap.size) => hPu ▸ push_any (win p M q) (P + x) (by rw [win_len]; omega) h hB
        have OO := Lib.hid fun (W : World) (B : Nat) (A : Option Addr) (l c : Nat) (h : Win W B A l c (win p M (q + 1))) (hB : B ≤ W.heap.size) => hOu ▸ out_any (win p M (q + 1)) h hB
        have HH := Lib.hid (And.intro hp1 (And.intro hd1 (And.intro hO1 (And.intro hXn hGn))))
        have HVC := Lib.hid (And.intro hw1 hb1)
        have HPP := Lib.hid hi1
        have HEE := Lib.hid (show W1 - (out p M q - out p M (q - 1)) = B1 by rw [HE.out.2.2.1]; omega)
        clear hX1e hG1e hXn hGn hR0 hR1 hi1 hPu hOu obP obQ mv gv jv eV eC hp1 hd1 hg1 hxz hO1 eMX eMG hDb
        go_wp2_with (first | (go_at_call 15; fail))
        refine (PP.out _ _ HW.out (Nat.le_refl _)).mono ?_
        rintro e w6 ⟨A6, l6, c6, rfl, hW6, hb⟩
        have el : M = l6 := by have := hW6.1; rw [win_len] at this; exact this
        subst el
        have W6 := Lib.hid hW6
        have V6 := Lib.hid (HV.out.under hb)
        have H6 := Lib.hid (HB.out.trans (hb.mono HB.out.size))
        obtain ⟨x7, e7, v7, z7, b7, _, k7⟩ := laid V6.out (.slice A6 M c6)
        have W7 := Lib.hid ((k7 _ _ _ _ _ W6.out).more (B' := x7.heap.size) (by omega))
        have H7 := Lib.hid (H6.out.trans (b7 w.heap.size hg))
        clear hW6 hb hcc hff hck b7 k7 z7
        have hcc := V6.out.cell
        have hff := V6.out.frozen 0
        have hc7 := v7.cell
        go_wp2_with (first | (go_at_call 17; fail))
        clear hcc hff hc7 e7
        have hgs7 := v7.lt
        refine (OO.out _ _ _ _ _ W7.out (Nat.le_refl _)).mono ?_
        rintro e w8 ⟨rfl, hb⟩
        have V8 := Lib.hid (v7.under hb)
        have W8 := Lib.hid ((W7.out.below hb).more hb.size)
        have H8 := Lib.hid (H7.out.trans (hb.mono H7.out.size))
        have z8 := hb.size
        clear hb v7
        have hcc := V8.out.cell
        have hff := V8.out.frozen 0
        clear hmax hmax2 hX0 hX1 hG0 hG1
        obtain ⟨b6, o6, rfl, hb6, hc6⟩ := W8.out.2.2.2.2 (by omega)
        have C8 := Lib.hid hc6
        have ce : w8.cell? ⟨b6, o6, none⟩ = some (.int .i64 (P + x)) := by
          have := hc6 0 (by omega)
          rw [win_at _ _ _ _ HM.out.1, Nat.sub_zero, HH.out.1] at this
          exact this
        have hM0 : 0 < M := by omega
        clear hc6
        go_upto_region 25 with (fail)
        clear t1 t2 t3 t4 t5 t6 hmx hmg hw1 hb1 mx mg
        go_quiet (fail)
        go_wp2
        have HC := Lib.hid (And.intro C8.out (And.intro hb6 (And.intro V8.out (And.intro W8.out H8.out))))
        have hpb := HPP.out
        rw [HH.out.1] at hpb
        obtain ⟨hpb1, hpb2⟩ := hpb
        have hmI : (M : Int) ≤ 16 := m2
        clear C8 ce W8 H8 W7 H7 W6 H6 hcc hff hM0
        go_loopw [22, 23, 24] (fun s22 s23 s24 wr => ∃ (j : Nat) (lo hi : Int), j ≤ M ∧ s24 = .int .i64 j ∧ s22 = .int .i64 lo ∧ s23 = .int .i64 hi ∧ (lo ≤ P + x ∧ P + x ≤ hi) ∧ (-2199023255552 ≤ lo ∧ hi ≤ 2199023255552) ∧ (∀ k, k < j → lo ≤ p (q + 1 - k) ∧ p (q + 1 - k) ≤ hi) ∧ ∃ n, wr = w8.drewN n) (fun _ _ s24 _ => M - (intOf s24).toNat)
        case atStart => exact ⟨0, P + x, P + x, Nat.zero_le _, rfl, rfl, rfl, ⟨Int.le_refl _, Int.le_refl _⟩, ⟨hpb1, hpb2⟩, fun k hk => absurd hk (by omega), _, rfl⟩
        case round =>
          obtain ⟨j, lo, hi, hj, rfl, rfl, rfl, ⟨l1, l2⟩, ⟨l3, l4⟩, hk, n, rfl⟩ := hrel
          have HKK := Lib.hid hk
          clear hk
          have hcc := HC.out.2.2.1.cell
          by_cases hlt : j < M
          · have ce := HC.out.1 j hlt
            rw [win_at _ _ _ _ hlt] at ce
            have hin := HI.out (q + 1 - j) (by omega) (by omega)
            obtain ⟨y, hy⟩ : ∃ y, p (q + 1 - j) = y := ⟨_, rfl⟩
            rw [hy] at ce hin
            obtain ⟨i1, i2⟩ := hin
            have hj0 : (0 : Int) ≤ (j : Int) := by omega
            have hj1 : (j : Int) < (M : Int) := by omega
            obtain ⟨lo1, hl1⟩ : ∃ z, min lo y = z := ⟨_, rfl⟩
            obtain ⟨hi1, hh1⟩ : ∃ z, max hi y = z := ⟨_, rfl⟩
            have HX : Hid (∀ k, k < j + 1 → lo1 ≤ p (q + 1 - k) ∧ p (q + 1 - k) ≤ hi1) := Lib.hid fun k hk => by
              by_cases e : k = j
              · subst e; rw [hy]; omega
              · have := HKK.out k (by omega)
                omega
            have HY := Lib.hid (show (lo1 ≤ P + x ∧ P + x ≤ hi1) ∧ (-2199023255552 ≤ lo1 ∧ hi1 ≤ 2199023255552) by omega)
            clear hy
            go_wp2
            go_quiet (fail)
            go_wp2
            go_roundw
            case rel => exact ⟨j + 1, lo1, hi1, by omega, by go_num, rfl, rfl, HY.out.1, HY.out.2, HX.out, n + nq, (by first | rfl | exact World.drewN_drewN _ _ _)⟩
            case measure => simp [intOf]; omega
          · have hjM : j = M := by omega
            subst hjM
            have bt := out_between (p := p) (m := j) (i := q + 1) HKK.out
            rw [HH.out.2.2.1] at bt
            have ml := mul_in (q := (j : Int)) (a := lo) (lo := -2199023255552) (hi := 2199023255552) (by omega) hmI (by omega) (by omega) (by omega) (by omega)
            have mh := mul_in (q := (j : Int)) (a := hi) (lo := -2199023255552) (hi := 2199023255552) (by omega) hmI (by omega) (by omega) (by omega) (by omega)
            obtain ⟨ML, eML⟩ : ∃ z, (j : Int) * lo = z := ⟨_, rfl⟩
            obtain ⟨MH, eMH⟩ : ∃ z, (j : Int) * hi = z := ⟨_, rfl⟩
            rw [eML] at ml bt
            rw [eMH] at mh bt
            have hml : wrap64 ((j : Int) * lo) = ML := by rw [eML]; exact IntWalk.wrap64_in _ (by omega)
            have hmh : wrap64 ((j : Int) * hi) = MH := by rw [eMH]; exact IntWalk.wrap64_in _ (by omega)
            have t7 : decide (O1 < ML) = false := decide_eq_false (by omega)
            have t8 : decide (MH < O1) = false := decide_eq_false (by omega)
            clear eML eMH
            go_wp2
            go_roundw
            case rel => exact ⟨q + 1, P + x, x, O1, W1, B1, X1, G1, some ⟨b6, o6, none⟩, j, c6, by omega, by omega, by go_num, rfl, rfl, rfl, rfl, rfl, rfl, rfl, HH.out.1, HH.out.2.1, HH.out.2.2.1, by rw [show q + 1 - 1 = q from rfl, HH.out.2.2.1, HE.out.2.2.1]; exact HVC.out.1, HEE.out, ⟨hXb.1, hXb.2.1, HH.out.2.2.2.1⟩, ⟨hGb.1, hGb.2.1, HH.out.2.2.2.2⟩, HC.out.2.2.2.1, HC.out.2.2.1.drawn _, below_drawn HC.out.2.2.2.2 _⟩
            case measure => simp [intOf]; omega
end Go.Proofs.Ytgfhpdgohjnooaa.smoothBounds
