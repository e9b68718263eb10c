/- What layer drive's Come answers, of a drive that is right and any bytes; what was in memory is as it was. No condition but that the bytes are read where they lie. -/
import Derived.Test.YtdfgjfojneoljaaJDriveB
namespace Go.Proofs.Ytdfgjfojneoljaa.j
open Go.ChangeShapes Go.WideShapes Go.ChangeAt Go.RowKit Go.Proofs.Ytdfgjfojneoljaa.s Go.Proofs.Ytdfgjfojneoljaa.t
set_option linter.unusedVariables false

theorem ands (X : Int) (h0 : 0 ≤ X) (h1 : X ≤ 255) : (bits .and .i64 X 16 != 0) = bitS X 16 ∧ (bits .and .i64 X 32 != 0) = bitS X 32 ∧ (bits .and .i64 X 64 != 0) = bitS X 64 := by
  have key : ∀ n : Fin 256, (bits .and .i64 (n.val : Int) 16 != 0) = bitS (n.val : Int) 16 ∧ (bits .and .i64 (n.val : Int) 32 != 0) = bitS (n.val : Int) 32 ∧ (bits .and .i64 (n.val : Int) 64 != 0) = bitS (n.val : Int) 64 := by decide +kernel
  have h := key ⟨X.toNat, by omega⟩
  have e : ((X.toNat : Nat) : Int) = X := Int.toNat_of_nonneg h0
  simp only [e] at h
  exact h
theorem shows_of {X K : Int} {b : Bool} (h : (bits .and .i64 X K != 0) = b) (W : World) :
    Calls Try.prog 29 #[.int .i64 X, .int .i64 K] W fun e w' => e = .returned (.bool b) ∧ w' = W := by
  obtain ⟨V, hV⟩ : ∃ V, bits .and .i64 X K = V := ⟨_, rfl⟩
  rw [hV] at h
  have HV := Lib.hid h
  clear h
  go_enter Try.func29, Try.ntmps29
  go_wp2
  go_ret
  exact ⟨by rw [← HV.out]; rfl, rfl⟩
theorem watch_yes (lim mis last : Int) (h : u.RightW lim mis last) (l : List (BitVec 8)) (hc : cnt last l = true) (n : Nat) (hn : l.length = n) (hl : l.length ≤ 10000) (B : Nat) (A : Option Addr) (cap : Nat) (hcap : n ≤ cap) (hmax : cap ≤ maxLen) (w : World) (hA : Bytes w B A l) (hB : B ≤ w.heap.size) :
    Calls Try.prog 26 #[.agg #[.int .i64 lim, .int .i64 mis, .int .i64 last], .slice A n cap] w fun e w' =>
      e = .returned (.tuple #[.agg #[.int .i64 lim, .int .i64 0, .int .i64 (rS signF 127 l)], .agg #[.int .i64 (rS signF 127 l), .int .i64 (rW signF 127 l), .int .i64 (rP signF 127 l)], .bool true]) ∧ Below w.heap.size w w' :=
  (u.come_right lim mis last h l n hn hl B A cap hcap hmax w hA hB).mono fun e w' ⟨hb, hp⟩ => by
    rcases hp with ⟨_, he⟩ | ⟨h1, _⟩
    · exact ⟨he, hb⟩
    · exact absurd (of_cnt hc) h1
theorem watch_no (lim mis last : Int) (h : u.RightW lim mis last) (l : List (BitVec 8)) (hc : cnt last l = false) (n : Nat) (hn : l.length = n) (hl : l.length ≤ 10000) (B : Nat) (A : Option Addr) (cap : Nat) (hcap : n ≤ cap) (hmax : cap ≤ maxLen) (w : World) (hA : Bytes w B A l) (hB : B ≤ w.heap.size) :
    Calls Try.prog 26 #[.agg #[.int .i64 lim, .int .i64 mis, .int .i64 last], .slice A n cap] w fun e w' =>
      e = .returned (.tuple #[.agg #[.int .i64 lim, .int .i64 (if mis < lim then mis + 1 else mis), .int .i64 last], .agg #[.int .i64 0, .int .i64 0, .int .i64 0], .bool false]) ∧ Below w.heap.size w w' :=
  (u.come_right lim mis last h l n hn hl B A cap hcap hmax w hA hB).mono fun e w' ⟨hb, hp⟩ => by
    rcases hp with ⟨h1, _⟩ | ⟨_, he⟩
    · exact absurd h1 (of_not hc)
    · exact ⟨he, hb⟩
set_option maxHeartbeats 4000000 in
theorem come_ok (d : D) (h : RightD d) (l : List (BitVec 8)) (n : Nat) (hn : l.length = n) (hl : l.length ≤ 10000) (B : Nat) (A : Option Addr) (cap : Nat) (hcap : n ≤ cap) (hmax : cap ≤ maxLen) (w : World) (hA : Bytes w B A l) (hB : B ≤ w.heap.size) :
    Calls Try.prog 11 #[dV d, .slice A n cap] w fun e w' => e = .returned (dV (comeD d l)) ∧ Below w.heap.size w w' := by
  have CR := Lib.hid fun W => right_is (right_yes h) (wide_of h) W
  have hrw := h.2.2.2.2.2.2.2.2.2.1
  have r1 := h.1
  have r2 := h.2.1
  have r3 := h.2.2.2.1
  have HB := Lib.hid hB
  clear h
  obtain ⟨st, lim, mis, last, pc, pv, po, mc, mv, mo, hc, hv, ho, act, kn, sq⟩ := d
  unfold dV at CR
  dsimp only at CR hrw r1 r2 r3
  cases hcn : cnt last l
  · have HK : Hid (comeD ⟨st, lim, mis, last, pc, pv, po, mc, mv, mo, hc, hv, ho, act, kn, sq⟩ l = ⟨st, lim, if mis < lim then mis + 1 else mis, last, pc, pv, po, mc, mv, mo, hc, hv, ho, act, kn, sq⟩) := Lib.hid (come_no hcn)
    have HC := Lib.hid fun (W : World) (hb : Below B w W) => watch_no lim mis last hrw l hcn n hn hl B A cap hcap hmax W (hA.below hb) (Nat.le_trans hB hb.size)
    clear hcn hn hl hcap hmax hA hB hrw r1 r2 r3
    generalize (if mis < lim then mis + 1 else mis) = m2 at HC HK
    unfold dV
    dsimp only
    have M : Hid (k.Box ((w.alloc (.cells #[.int .i64 st, .int .i64 lim, .int .i64 mis, .int .i64 last, .int .i64 pc, .bool pv, .int .i64 po, .int .i64 mc, .bool mv, .int .i64 mo, .int .i64 hc, .bool hv, .int .i64 ho, .int .i64 act, .bool kn, .int .i64 sq] 27)).alloc (.cells #[.int .i64 0, .int .i64 0, .int .i64 0, .int .i64 0, .int .i64 0, .bool false, .int .i64 0, .int .i64 0, .bool false, .int .i64 0, .int .i64 0, .bool false, .int .i64 0, .int .i64 0, .bool false, .int .i64 0] 27)) w.heap.size 0 [.int .i64 st, .int .i64 lim, .int .i64 mis, .int .i64 last, .int .i64 pc, .bool pv, .int .i64 po, .int .i64 mc, .bool mv, .int .i64 mo, .int .i64 hc, .bool hv, .int .i64 ho, .int .i64 act, .bool kn, .int .i64 sq]) := Lib.hid (k.boxes2 (Below.refl _ _)).1
    go_enter Try.func11, Try.ntmps11
    go_upto_region 3 with (first | ((with_reducible refine k.load_wanted ?gwNC1 27 (.tmp 2) ?goNC1 w.heap.size 0 ?gxNC1 [.int .i64 st, .int .i64 lim, .int .i64 mis, .int .i64 last, .int .i64 pc, .bool pv, .int .i64 po, .int .i64 mc, .bool mv, .int .i64 mo, .int .i64 hc, .bool hv, .int .i64 ho, .int .i64 act, .bool kn, .int .i64 sq] ?gqNC1 M.out.range ?guNC1 ?gdNC1 ?giNC1 ?ghNC1); (case goNC1 => rfl); (case gwNC1 => rfl); (case gxNC1 => rfl); (case guNC1 => rfl); (case gdNC1 => rfl); (case giNC1 => kernel_rfl)) | (go_at_call 10; ((with_reducible refine (CR.out _).mono ?_); rintro e v0 ⟨rfl, hb⟩; obtain ⟨x1, x2, x3, x4⟩ := k.boxes2 hb; have Bv0 := Lib.hid x1; have Zv0 := Lib.hid x2; have Hv0 := Lib.hid x3; have zv0 := x4; clear hb x1 x2 x3 x4)))
    clear M
    have ⟨bc1, bf1⟩ := k.cell_of Bv0.out (i := 1) rfl
    have ⟨bc2, bf2⟩ := k.cell_of Bv0.out (i := 2) rfl
    have ⟨bc3, bf3⟩ := k.cell_of Bv0.out (i := 3) rfl
    go_upto_region 4 with (go_at_call 26; ((with_reducible refine (HC.out _ (Hv0.out.mono HB.out)).mono ?_); rintro e w3 ⟨rfl, hb⟩; have Bw3 := Lib.hid (Bv0.out.below hb (by omega)); have Zw3 := Lib.hid (Zv0.out.below hb zv0); have Hw3 := Lib.hid (Hv0.out.trans (hb.mono Hv0.out.size)); have x4 := Nat.lt_of_lt_of_le zv0 hb.size; clear hb))
    clear bc1 bf1 bc2 bf2 bc3 bf3
    have hl4 : Below w3.heap.size w3 ((w3.alloc (.cells #[.int .i64 lim, .int .i64 m2, .int .i64 last] 23)).alloc (.cells #[.int .i64 0, .int .i64 0, .int .i64 0] 42)) := ((Below.refl _ _).alloc (Nat.le_refl _) _).alloc (by simp) _
    have b2 := Bw3.out.below hl4 (Nat.lt_of_succ_lt x4)
    have z2 := Zw3.out.below hl4 x4
    obtain ⟨a2, f2, _, s2⟩ := k.boxes2 (w := w3) (c1 := #[.int .i64 lim, .int .i64 m2, .int .i64 last]) (t1 := 23) (c2 := #[.int .i64 0, .int .i64 0, .int .i64 0]) (t2 := 42) (Below.refl _ _)
    have h2 : Below w.heap.size w ((w3.alloc (.cells #[.int .i64 lim, .int .i64 m2, .int .i64 last] 23)).alloc (.cells #[.int .i64 0, .int .i64 0, .int .i64 0] 42)) := Hw3.out.trans (hl4.mono (by omega))
    generalize ((w3.alloc (.cells #[.int .i64 lim, .int .i64 m2, .int .i64 last] 23)).alloc (.cells #[.int .i64 0, .int .i64 0, .int .i64 0] 42)) = w4 at b2 z2 a2 f2 s2 h2 ⊢
    have Bw4 : Hid (k.Box w4 w.heap.size 0 [.int .i64 st, .int .i64 lim, .int .i64 mis, .int .i64 last, .int .i64 pc, .bool pv, .int .i64 po, .int .i64 mc, .bool mv, .int .i64 mo, .int .i64 hc, .bool hv, .int .i64 ho, .int .i64 act, .bool kn, .int .i64 sq]) := Lib.hid b2
    have Zw4 : Hid (k.Box w4 (w.heap.size + 1) 0 [.int .i64 0, .int .i64 0, .int .i64 0, .int .i64 0, .int .i64 0, .bool false, .int .i64 0, .int .i64 0, .bool false, .int .i64 0, .int .i64 0, .bool false, .int .i64 0, .int .i64 0, .bool false, .int .i64 0]) := Lib.hid z2
    have Aw4 : Hid (k.Box w4 w3.heap.size 0 [.int .i64 lim, .int .i64 m2, .int .i64 last]) := Lib.hid a2
    have Fw4 : Hid (k.Box w4 (w3.heap.size + 1) 0 [.int .i64 0, .int .i64 0, .int .i64 0]) := Lib.hid f2
    have Hw4 := Lib.hid h2
    have hzw4 : w3.heap.size + 1 < w4.heap.size := s2
    clear b2 z2 a2 f2 h2 hl4 s2
    have ⟨ac0, af0⟩ := k.cell_of Aw4.out (i := 0) rfl
    have ⟨ac1, af1⟩ := k.cell_of Aw4.out (i := 1) rfl
    have ⟨ac2, af2⟩ := k.cell_of Aw4.out (i := 2) rfl
    have ⟨bc1, bf1⟩ := k.cell_of Bw4.out (i := 1) rfl
    have ⟨bc2, bf2⟩ := k.cell_of Bw4.out (i := 2) rfl
    have ⟨bc3, bf3⟩ := k.cell_of Bw4.out (i := 3) rfl
    go_upto_region 6 with (fail)
    have b2 := (((Bw4.out.put 1 (by simp) (.int .i64 lim)).put 2 (by simp) (.int .i64 m2)).put 3 (by simp) (.int .i64 last))
    have z2 := (k.Box_aside (i := 3) (show w.heap.size ≠ w.heap.size + 1 by omega) (.int .i64 last) (k.Box_aside (i := 2) (show w.heap.size ≠ w.heap.size + 1 by omega) (.int .i64 m2) (k.Box_aside (i := 1) (show w.heap.size ≠ w.heap.size + 1 by omega) (.int .i64 lim) Zw4.out)))
    have h2 : Below w.heap.size w (((w4.setCell ⟨w.heap.size, 1, none⟩ (.int .i64 lim)).setCell ⟨w.heap.size, 2, none⟩ (.int .i64 m2)).setCell ⟨w.heap.size, 3, none⟩ (.int .i64 last)) := (((Hw4.out.setCell (Nat.le_refl _) _).setCell (Nat.le_refl _) _).setCell (Nat.le_refl _) _)
    have s2 : ((((w4.setCell ⟨w.heap.size, 1, none⟩ (.int .i64 lim)).setCell ⟨w.heap.size, 2, none⟩ (.int .i64 m2)).setCell ⟨w.heap.size, 3, none⟩ (.int .i64 last))).heap.size = w4.heap.size := by simp
    generalize (((w4.setCell ⟨w.heap.size, 1, none⟩ (.int .i64 lim)).setCell ⟨w.heap.size, 2, none⟩ (.int .i64 m2)).setCell ⟨w.heap.size, 3, none⟩ (.int .i64 last)) = w5 at b2 z2 h2 s2 ⊢
    have hzw5 : w3.heap.size + 1 < w5.heap.size := by omega
    have Bw5 : Hid (k.Box w5 w.heap.size 0 [.int .i64 st, .int .i64 lim, .int .i64 m2, .int .i64 last, .int .i64 pc, .bool pv, .int .i64 po, .int .i64 mc, .bool mv, .int .i64 mo, .int .i64 hc, .bool hv, .int .i64 ho, .int .i64 act, .bool kn, .int .i64 sq]) := Lib.hid b2
    have Zw5 := Lib.hid z2
    have Hw5 := Lib.hid h2
    clear b2 z2 h2 s2 
    clear ac0 af0 ac1 af1 ac2 af2 bc1 bf1 bc2 bf2 bc3 bf3
    go_step
    refine wpList_load_mid rfl 27 (.tmp 2) rfl w.heap.size 0 rfl [.int .i64 st, .int .i64 lim, .int .i64 m2, .int .i64 last, .int .i64 pc, .bool pv, .int .i64 po, .int .i64 mc, .bool mv, .int .i64 mo, .int .i64 hc, .bool hv, .int .i64 ho, .int .i64 act, .bool kn, .int .i64 sq] _ (Bw5.out.range) rfl rfl (by kernel_rfl) ?_
    refine wpList_store_mid rfl 27 (.tmp 4) (.tmp 24) rfl (w.heap.size + 1) 0 #[.int .i64 st, .int .i64 lim, .int .i64 m2, .int .i64 last, .int .i64 pc, .bool pv, .int .i64 po, .int .i64 mc, .bool mv, .int .i64 mo, .int .i64 hc, .bool hv, .int .i64 ho, .int .i64 act, .bool kn, .int .i64 sq] rfl rfl (k.there_of Zw5.out rfl) (by kernel_rfl) (by simp [Value.oneCell']) ?_
    obtain ⟨W, hW, h1, h2, h3, h5⟩ := k.stored (us := [.int .i64 st, .int .i64 lim, .int .i64 m2, .int .i64 last, .int .i64 pc, .bool pv, .int .i64 po, .int .i64 mc, .bool mv, .int .i64 mo, .int .i64 hc, .bool hv, .int .i64 ho, .int .i64 act, .bool kn, .int .i64 sq]) Zw5.out rfl
    change wpList _ _ _ _ _ (World.setCells _ _ _ [.int .i64 st, .int .i64 lim, .int .i64 m2, .int .i64 last, .int .i64 pc, .bool pv, .int .i64 po, .int .i64 mc, .bool mv, .int .i64 mo, .int .i64 hc, .bool hv, .int .i64 ho, .int .i64 act, .bool kn, .int .i64 sq])
    rw [hW]
    have H1 := Lib.hid h1
    have H3 := Lib.hid (h3 w.heap.size (by omega))
    clear hW h1 h2 h3 h5
    go_wp2
    refine bodyPost_ret (k.results_cell rfl rfl (run_loadVar_mid W (w.heap.size + 1) 0 27 _ _ H1.out.range rfl rfl (by kernel_rfl))) rfl ?_
    exact ⟨by rw [HK.out], Hw5.out.trans H3.out⟩
  · have HK : Hid (comeD ⟨st, lim, mis, last, pc, pv, po, mc, mv, mo, hc, hv, ho, act, kn, sq⟩ l = tookD ⟨st, lim, mis, last, pc, pv, po, mc, mv, mo, hc, hv, ho, act, kn, sq⟩ (rS signF 127 l) (rW signF 127 l) (rP signF 127 l)) := Lib.hid (come_yes hcn)
    have HC := Lib.hid fun (W : World) (hb : Below B w W) => watch_yes lim mis last hrw l hcn n hn hl B A cap hcap hmax W (hA.below hb) (Nat.le_trans hB hb.size)
    have hX := rW_in l
    clear hcn hn hl hcap hmax hA hB hrw
    generalize rS signF 127 l = S at HC HK
    generalize rW signF 127 l = X at HC HK hX
    generalize rP signF 127 l = P at HC HK
    unfold tookD at HK
    dsimp only at HK
    have ha := ands X hX.1 hX.2
    have W1 := Lib.hid fun W => shows_of ha.1 W
    have W2 := Lib.hid fun W => shows_of ha.2.1 W
    have W3 := Lib.hid fun W => shows_of ha.2.2 W
    clear ha hX
    generalize bitS X 16 = b1 at HK W1
    have S1 := Lib.hid fun W => v.step_ok pc pv po b1 r1 W
    generalize v.stepV pc pv po b1 = pv2 at HK S1
    generalize v.stepO pc pv po b1 = po2 at HK S1
    generalize bitS X 32 = b2 at HK W2
    have S2 := Lib.hid fun W => v.step_ok mc mv mo b2 r2 W
    generalize v.stepV mc mv mo b2 = mv2 at HK S2
    generalize v.stepO mc mv mo b2 = mo2 at HK S2
    generalize bitS X 64 = b3 at HK W3
    have S3 := Lib.hid fun W => v.step_ok hc hv ho b3 r3 W
    generalize v.stepV hc hv ho b3 = hv2 at HK S3
    generalize v.stepO hc hv ho b3 = ho2 at HK S3
    have ST := Lib.hid fun W => o.state_any X W
    generalize o.st X = V at HK ST
    clear r1 r2 r3
    unfold dV
    dsimp only
    have M : Hid (k.Box ((w.alloc (.cells #[.int .i64 st, .int .i64 lim, .int .i64 mis, .int .i64 last, .int .i64 pc, .bool pv, .int .i64 po, .int .i64 mc, .bool mv, .int .i64 mo, .int .i64 hc, .bool hv, .int .i64 ho, .int .i64 act, .bool kn, .int .i64 sq] 27)).alloc (.cells #[.int .i64 0, .int .i64 0, .int .i64 0, .int .i64 0, .int .i64 0, .bool false, .int .i64 0, .int .i64 0, .bool false, .int .i64 0, .int .i64 0, .bool false, .int .i64 0, .int .i64 0, .bool false, .int .i64 0] 27)) w.heap.size 0 [.int .i64 st, .int .i64 lim, .int .i64 mis, .int .i64 last, .int .i64 pc, .bool pv, .int .i64 po, .int .i64 mc, .bool mv, .int .i64 mo, .int .i64 hc, .bool hv, .int .i64 ho, .int .i64 act, .bool kn, .int .i64 sq]) := Lib.hid (k.boxes2 (Below.refl _ _)).1
    go_enter Try.func11, Try.ntmps11
    go_upto_region 3 with (first | ((with_reducible refine k.load_wanted ?gwNC2 27 (.tmp 2) ?goNC2 w.heap.size 0 ?gxNC2 [.int .i64 st, .int .i64 lim, .int .i64 mis, .int .i64 last, .int .i64 pc, .bool pv, .int .i64 po, .int .i64 mc, .bool mv, .int .i64 mo, .int .i64 hc, .bool hv, .int .i64 ho, .int .i64 act, .bool kn, .int .i64 sq] ?gqNC2 M.out.range ?guNC2 ?gdNC2 ?giNC2 ?ghNC2); (case goNC2 => rfl); (case gwNC2 => rfl); (case gxNC2 => rfl); (case guNC2 => rfl); (case gdNC2 => rfl); (case giNC2 => kernel_rfl)) | (go_at_call 10; ((with_reducible refine (CR.out _).mono ?_); rintro e v0 ⟨rfl, hb⟩; obtain ⟨x1, x2, x3, x4⟩ := k.boxes2 hb; have Bv0 := Lib.hid x1; have Zv0 := Lib.hid x2; have Hv0 := Lib.hid x3; have zv0 := x4; clear hb x1 x2 x3 x4)))
    clear M
    have ⟨bc1, bf1⟩ := k.cell_of Bv0.out (i := 1) rfl
    have ⟨bc2, bf2⟩ := k.cell_of Bv0.out (i := 2) rfl
    have ⟨bc3, bf3⟩ := k.cell_of Bv0.out (i := 3) rfl
    go_upto_region 4 with (go_at_call 26; ((with_reducible refine (HC.out _ (Hv0.out.mono HB.out)).mono ?_); rintro e w3 ⟨rfl, hb⟩; have Bw3 := Lib.hid (Bv0.out.below hb (by omega)); have Zw3 := Lib.hid (Zv0.out.below hb zv0); have Hw3 := Lib.hid (Hv0.out.trans (hb.mono Hv0.out.size)); have x4 := Nat.lt_of_lt_of_le zv0 hb.size; clear hb))
    clear bc1 bf1 bc2 bf2 bc3 bf3
    have hl4 : Below w3.heap.size w3 ((w3.alloc (.cells #[.int .i64 lim, .int .i64 0, .int .i64 S] 23)).alloc (.cells #[.int .i64 S, .int .i64 X, .int .i64 P] 42)) := ((Below.refl _ _).alloc (Nat.le_refl _) _).alloc (by simp) _
    have b2 := Bw3.out.below hl4 (Nat.lt_of_succ_lt x4)
    have z2 := Zw3.out.below hl4 x4
    obtain ⟨a2, f2, _, s2⟩ := k.boxes2 (w := w3) (c1 := #[.int .i64 lim, .int .i64 0, .int .i64 S]) (t1 := 23) (c2 := #[.int .i64 S, .int .i64 X, .int .i64 P]) (t2 := 42) (Below.refl _ _)
    have h2 : Below w.heap.size w ((w3.alloc (.cells #[.int .i64 lim, .int .i64 0, .int .i64 S] 23)).alloc (.cells #[.int .i64 S, .int .i64 X, .int .i64 P] 42)) := Hw3.out.trans (hl4.mono (by omega))
    generalize ((w3.alloc (.cells #[.int .i64 lim, .int .i64 0, .int .i64 S] 23)).alloc (.cells #[.int .i64 S, .int .i64 X, .int .i64 P] 42)) = w4 at b2 z2 a2 f2 s2 h2 ⊢
    have Bw4 : Hid (k.Box w4 w.heap.size 0 [.int .i64 st, .int .i64 lim, .int .i64 mis, .int .i64 last, .int .i64 pc, .bool pv, .int .i64 po, .int .i64 mc, .bool mv, .int .i64 mo, .int .i64 hc, .bool hv, .int .i64 ho, .int .i64 act, .bool kn, .int .i64 sq]) := Lib.hid b2
    have Zw4 : Hid (k.Box w4 (w.heap.size + 1) 0 [.int .i64 0, .int .i64 0, .int .i64 0, .int .i64 0, .int .i64 0, .bool false, .int .i64 0, .int .i64 0, .bool false, .int .i64 0, .int .i64 0, .bool false, .int .i64 0, .int .i64 0, .bool false, .int .i64 0]) := Lib.hid z2
    have Aw4 : Hid (k.Box w4 w3.heap.size 0 [.int .i64 lim, .int .i64 0, .int .i64 S]) := Lib.hid a2
    have Fw4 : Hid (k.Box w4 (w3.heap.size + 1) 0 [.int .i64 S, .int .i64 X, .int .i64 P]) := Lib.hid f2
    have Hw4 := Lib.hid h2
    have hzw4 : w3.heap.size + 1 < w4.heap.size := s2
    clear b2 z2 a2 f2 h2 hl4 s2
    have ⟨ac0, af0⟩ := k.cell_of Aw4.out (i := 0) rfl
    have ⟨ac1, af1⟩ := k.cell_of Aw4.out (i := 1) rfl
    have ⟨ac2, af2⟩ := k.cell_of Aw4.out (i := 2) rfl
    have ⟨bc1, bf1⟩ := k.cell_of Bw4.out (i := 1) rfl
    have ⟨bc2, bf2⟩ := k.cell_of Bw4.out (i := 2) rfl
    have ⟨bc3, bf3⟩ := k.cell_of Bw4.out (i := 3) rfl
    go_upto_region 7 with (fail)
    have b2 := (((Bw4.out.put 1 (by simp) (.int .i64 lim)).put 2 (by simp) (.int .i64 0)).put 3 (by simp) (.int .i64 S))
    have z2 := (k.Box_aside (i := 3) (show w.heap.size ≠ w.heap.size + 1 by omega) (.int .i64 S) (k.Box_aside (i := 2) (show w.heap.size ≠ w.heap.size + 1 by omega) (.int .i64 0) (k.Box_aside (i := 1) (show w.heap.size ≠ w.heap.size + 1 by omega) (.int .i64 lim) Zw4.out)))
    have f2 := (k.Box_aside (i := 3) (show w.heap.size ≠ w3.heap.size + 1 by omega) (.int .i64 S) (k.Box_aside (i := 2) (show w.heap.size ≠ w3.heap.size + 1 by omega) (.int .i64 0) (k.Box_aside (i := 1) (show w.heap.size ≠ w3.heap.size + 1 by omega) (.int .i64 lim) Fw4.out)))
    have h2 : Below w.heap.size w (((w4.setCell ⟨w.heap.size, 1, none⟩ (.int .i64 lim)).setCell ⟨w.heap.size, 2, none⟩ (.int .i64 0)).setCell ⟨w.heap.size, 3, none⟩ (.int .i64 S)) := (((Hw4.out.setCell (Nat.le_refl _) _).setCell (Nat.le_refl _) _).setCell (Nat.le_refl _) _)
    have s2 : ((((w4.setCell ⟨w.heap.size, 1, none⟩ (.int .i64 lim)).setCell ⟨w.heap.size, 2, none⟩ (.int .i64 0)).setCell ⟨w.heap.size, 3, none⟩ (.int .i64 S))).heap.size = w4.heap.size := by simp
    generalize (((w4.setCell ⟨w.heap.size, 1, none⟩ (.int .i64 lim)).setCell ⟨w.heap.size, 2, none⟩ (.int .i64 0)).setCell ⟨w.heap.size, 3, none⟩ (.int .i64 S)) = w5 at b2 z2 f2 h2 s2 ⊢
    have hzw5 : w3.heap.size + 1 < w5.heap.size := by omega
    have Bw5 : Hid (k.Box w5 w.heap.size 0 [.int .i64 st, .int .i64 lim, .int .i64 0, .int .i64 S, .int .i64 pc, .bool pv, .int .i64 po, .int .i64 mc, .bool mv, .int .i64 mo, .int .i64 hc, .bool hv, .int .i64 ho, .int .i64 act, .bool kn, .int .i64 sq]) := Lib.hid b2
    have Zw5 := Lib.hid z2
    have Fw5 := Lib.hid f2
    have Hw5 := Lib.hid h2
    clear b2 z2 h2 s2 f2
    clear ac0 af0 ac1 af1 ac2 af2 bc1 bf1 bc2 bf2 bc3 bf3
    have ⟨fc1, ff1⟩ := k.cell_of Fw5.out (i := 1) rfl
    have ⟨fc2, ff2⟩ := k.cell_of Fw5.out (i := 2) rfl
    have ⟨bc0, bf0⟩ := k.cell_of Bw5.out (i := 0) rfl
    have ⟨bc13, bf13⟩ := k.cell_of Bw5.out (i := 13) rfl
    have ⟨bc14, bf14⟩ := k.cell_of Bw5.out (i := 14) rfl
    go_upto_region 9 with (go_at_call 27; ((with_reducible refine (ST.out _).mono ?_); rintro e w' ⟨rfl, rfl⟩))
    have b2 := (((Bw5.out.put 0 (by simp) (.int .i64 V)).put 13 (by simp) (.int .i64 P)).put 14 (by simp) (.bool true))
    have z2 := (k.Box_aside (i := 14) (show w.heap.size ≠ w.heap.size + 1 by omega) (.bool true) (k.Box_aside (i := 13) (show w.heap.size ≠ w.heap.size + 1 by omega) (.int .i64 P) (k.Box_aside (i := 0) (show w.heap.size ≠ w.heap.size + 1 by omega) (.int .i64 V) Zw5.out)))
    have f2 := (k.Box_aside (i := 14) (show w.heap.size ≠ w3.heap.size + 1 by omega) (.bool true) (k.Box_aside (i := 13) (show w.heap.size ≠ w3.heap.size + 1 by omega) (.int .i64 P) (k.Box_aside (i := 0) (show w.heap.size ≠ w3.heap.size + 1 by omega) (.int .i64 V) Fw5.out)))
    have h2 : Below w.heap.size w (((w5.setCell ⟨w.heap.size, 0, none⟩ (.int .i64 V)).setCell ⟨w.heap.size, 13, none⟩ (.int .i64 P)).setCell ⟨w.heap.size, 14, none⟩ (.bool true)) := (((Hw5.out.setCell (Nat.le_refl _) _).setCell (Nat.le_refl _) _).setCell (Nat.le_refl _) _)
    have s2 : ((((w5.setCell ⟨w.heap.size, 0, none⟩ (.int .i64 V)).setCell ⟨w.heap.size, 13, none⟩ (.int .i64 P)).setCell ⟨w.heap.size, 14, none⟩ (.bool true))).heap.size = w5.heap.size := by simp
    generalize (((w5.setCell ⟨w.heap.size, 0, none⟩ (.int .i64 V)).setCell ⟨w.heap.size, 13, none⟩ (.int .i64 P)).setCell ⟨w.heap.size, 14, none⟩ (.bool true)) = w6 at b2 z2 f2 h2 s2 ⊢
    have hzw6 : w3.heap.size + 1 < w6.heap.size := by omega
    have Bw6 : Hid (k.Box w6 w.heap.size 0 [.int .i64 V, .int .i64 lim, .int .i64 0, .int .i64 S, .int .i64 pc, .bool pv, .int .i64 po, .int .i64 mc, .bool mv, .int .i64 mo, .int .i64 hc, .bool hv, .int .i64 ho, .int .i64 P, .bool true, .int .i64 sq]) := Lib.hid b2
    have Zw6 := Lib.hid z2
    have Fw6 := Lib.hid f2
    have Hw6 := Lib.hid h2
    clear b2 z2 h2 s2 f2
    clear fc1 ff1 fc2 ff2 bc0 bf0 bc13 bf13 bc14 bf14
    refine still_named 5 (by kernel_rfl) ?_
    intro w7 hc2 hf2 hb2
    have Bw7 := Lib.hid (Bw6.out.below (hb2 w6.heap.size) (by omega))
    have Zw7 := Lib.hid (Zw6.out.below (hb2 w6.heap.size) (by omega))
    have Fw7 := Lib.hid (Fw6.out.below (hb2 w6.heap.size) (by omega))
    have Hw7 := Lib.hid (Hw6.out.trans (hb2 _))
    have hzw7 : w3.heap.size + 1 < w7.heap.size := Nat.lt_of_lt_of_le hzw6 (hb2 0).size
    clear hc2 hf2 hb2
    have ⟨fc1, ff1⟩ := k.cell_of Fw7.out (i := 1) rfl
    have ⟨bc4, bf4⟩ := k.cell_of Bw7.out (i := 4) rfl
    have ⟨bc5, bf5⟩ := k.cell_of Bw7.out (i := 5) rfl
    have ⟨bc6, bf6⟩ := k.cell_of Bw7.out (i := 6) rfl
    simp only [List.take_succ_cons, List.take_zero, List.drop_succ_cons, List.drop_zero]
    repeat still_step
    refine wpStill_step (fun K hK => ?_)
    go_simp
    refine ⟨.bool b1, W1.out w7, hK _ ?_⟩
    clear hK K
    refine wpStill_nil ?_
    go_upto_region 10 with (go_at_call 28; ((with_reducible refine (S1.out _).mono ?_); rintro e w8 ⟨rfl, hb⟩; have Bw8 := Lib.hid (Bw7.out.below hb (by omega)); have Zw8 := Lib.hid (Zw7.out.below hb (by omega)); have Fw8 := Lib.hid (Fw7.out.below hb (by omega)); have Hw8 := Lib.hid (Hw7.out.trans (hb.mono Hw7.out.size)); have x := hb.size; have hzw8 : w3.heap.size + 1 < w8.heap.size := (by omega); clear hb x fc1 ff1 bc4 bf4 bc5 bf5 bc6 bf6; have ⟨bc4, bf4⟩ := k.cell_of Bw8.out (i := 4) rfl; have ⟨bc5, bf5⟩ := k.cell_of Bw8.out (i := 5) rfl; have ⟨bc6, bf6⟩ := k.cell_of Bw8.out (i := 6) rfl))
    have b2 := (((Bw8.out.put 4 (by simp) (.int .i64 pc)).put 5 (by simp) (.bool pv2)).put 6 (by simp) (.int .i64 po2))
    have z2 := (k.Box_aside (i := 6) (show w.heap.size ≠ w.heap.size + 1 by omega) (.int .i64 po2) (k.Box_aside (i := 5) (show w.heap.size ≠ w.heap.size + 1 by omega) (.bool pv2) (k.Box_aside (i := 4) (show w.heap.size ≠ w.heap.size + 1 by omega) (.int .i64 pc) Zw8.out)))
    have f2 := (k.Box_aside (i := 6) (show w.heap.size ≠ w3.heap.size + 1 by omega) (.int .i64 po2) (k.Box_aside (i := 5) (show w.heap.size ≠ w3.heap.size + 1 by omega) (.bool pv2) (k.Box_aside (i := 4) (show w.heap.size ≠ w3.heap.size + 1 by omega) (.int .i64 pc) Fw8.out)))
    have h2 : Below w.heap.size w (((w8.setCell ⟨w.heap.size, 4, none⟩ (.int .i64 pc)).setCell ⟨w.heap.size, 5, none⟩ (.bool pv2)).setCell ⟨w.heap.size, 6, none⟩ (.int .i64 po2)) := (((Hw8.out.setCell (Nat.le_refl _) _).setCell (Nat.le_refl _) _).setCell (Nat.le_refl _) _)
    have s2 : ((((w8.setCell ⟨w.heap.size, 4, none⟩ (.int .i64 pc)).setCell ⟨w.heap.size, 5, none⟩ (.bool pv2)).setCell ⟨w.heap.size, 6, none⟩ (.int .i64 po2))).heap.size = w8.heap.size := by simp
    generalize (((w8.setCell ⟨w.heap.size, 4, none⟩ (.int .i64 pc)).setCell ⟨w.heap.size, 5, none⟩ (.bool pv2)).setCell ⟨w.heap.size, 6, none⟩ (.int .i64 po2)) = w9 at b2 z2 f2 h2 s2 ⊢
    have hzw9 : w3.heap.size + 1 < w9.heap.size := by omega
    have Bw9 : Hid (k.Box w9 w.heap.size 0 [.int .i64 V, .int .i64 lim, .int .i64 0, .int .i64 S, .int .i64 pc, .bool pv2, .int .i64 po2, .int .i64 mc, .bool mv, .int .i64 mo, .int .i64 hc, .bool hv, .int .i64 ho, .int .i64 P, .bool true, .int .i64 sq]) := Lib.hid b2
    have Zw9 := Lib.hid z2
    have Fw9 := Lib.hid f2
    have Hw9 := Lib.hid h2
    clear b2 z2 h2 s2 f2
    clear bc4 bf4 bc5 bf5 bc6 bf6
    refine still_named 5 (by kernel_rfl) ?_
    intro w10 hc2 hf2 hb2
    have Bw10 := Lib.hid (Bw9.out.below (hb2 w9.heap.size) (by omega))
    have Zw10 := Lib.hid (Zw9.out.below (hb2 w9.heap.size) (by omega))
    have Fw10 := Lib.hid (Fw9.out.below (hb2 w9.heap.size) (by omega))
    have Hw10 := Lib.hid (Hw9.out.trans (hb2 _))
    have hzw10 : w3.heap.size + 1 < w10.heap.size := Nat.lt_of_lt_of_le hzw9 (hb2 0).size
    clear hc2 hf2 hb2
    have ⟨fc1, ff1⟩ := k.cell_of Fw10.out (i := 1) rfl
    have ⟨bc7, bf7⟩ := k.cell_of Bw10.out (i := 7) rfl
    have ⟨bc8, bf8⟩ := k.cell_of Bw10.out (i := 8) rfl
    have ⟨bc9, bf9⟩ := k.cell_of Bw10.out (i := 9) rfl
    simp only [List.take_succ_cons, List.take_zero, List.drop_succ_cons, List.drop_zero]
    repeat still_step
    refine wpStill_step (fun K hK => ?_)
    go_simp
    refine ⟨.bool b2, W2.out w10, hK _ ?_⟩
    clear hK K
    refine wpStill_nil ?_
    go_upto_region 11 with (go_at_call 28; ((with_reducible refine (S2.out _).mono ?_); rintro e w11 ⟨rfl, hb⟩; have Bw11 := Lib.hid (Bw10.out.below hb (by omega)); have Zw11 := Lib.hid (Zw10.out.below hb (by omega)); have Fw11 := Lib.hid (Fw10.out.below hb (by omega)); have Hw11 := Lib.hid (Hw10.out.trans (hb.mono Hw10.out.size)); have x := hb.size; have hzw11 : w3.heap.size + 1 < w11.heap.size := (by omega); clear hb x fc1 ff1 bc7 bf7 bc8 bf8 bc9 bf9; have ⟨bc7, bf7⟩ := k.cell_of Bw11.out (i := 7) rfl; have ⟨bc8, bf8⟩ := k.cell_of Bw11.out (i := 8) rfl; have ⟨bc9, bf9⟩ := k.cell_of Bw11.out (i := 9) rfl))
    have b2 := (((Bw11.out.put 7 (by simp) (.int .i64 mc)).put 8 (by simp) (.bool mv2)).put 9 (by simp) (.int .i64 mo2))
    have z2 := (k.Box_aside (i := 9) (show w.heap.size ≠ w.heap.size + 1 by omega) (.int .i64 mo2) (k.Box_aside (i := 8) (show w.heap.size ≠ w.heap.size + 1 by omega) (.bool mv2) (k.Box_aside (i := 7) (show w.heap.size ≠ w.heap.size + 1 by omega) (.int .i64 mc) Zw11.out)))
    have f2 := (k.Box_aside (i := 9) (show w.heap.size ≠ w3.heap.size + 1 by omega) (.int .i64 mo2) (k.Box_aside (i := 8) (show w.heap.size ≠ w3.heap.size + 1 by omega) (.bool mv2) (k.Box_aside (i := 7) (show w.heap.size ≠ w3.heap.size + 1 by omega) (.int .i64 mc) Fw11.out)))
    have h2 : Below w.heap.size w (((w11.setCell ⟨w.heap.size, 7, none⟩ (.int .i64 mc)).setCell ⟨w.heap.size, 8, none⟩ (.bool mv2)).setCell ⟨w.heap.size, 9, none⟩ (.int .i64 mo2)) := (((Hw11.out.setCell (Nat.le_refl _) _).setCell (Nat.le_refl _) _).setCell (Nat.le_refl _) _)
    have s2 : ((((w11.setCell ⟨w.heap.size, 7, none⟩ (.int .i64 mc)).setCell ⟨w.heap.size, 8, none⟩ (.bool mv2)).setCell ⟨w.heap.size, 9, none⟩ (.int .i64 mo2))).heap.size = w11.heap.size := by simp
    generalize (((w11.setCell ⟨w.heap.size, 7, none⟩ (.int .i64 mc)).setCell ⟨w.heap.size, 8, none⟩ (.bool mv2)).setCell ⟨w.heap.size, 9, none⟩ (.int .i64 mo2)) = w12 at b2 z2 f2 h2 s2 ⊢
    have hzw12 : w3.heap.size + 1 < w12.heap.size := by omega
    have Bw12 : Hid (k.Box w12 w.heap.size 0 [.int .i64 V, .int .i64 lim, .int .i64 0, .int .i64 S, .int .i64 pc, .bool pv2, .int .i64 po2, .int .i64 mc, .bool mv2, .int .i64 mo2, .int .i64 hc, .bool hv, .int .i64 ho, .int .i64 P, .bool true, .int .i64 sq]) := Lib.hid b2
    have Zw12 := Lib.hid z2
    have Fw12 := Lib.hid f2
    have Hw12 := Lib.hid h2
    clear b2 z2 h2 s2 f2
    clear bc7 bf7 bc8 bf8 bc9 bf9
    refine still_named 5 (by kernel_rfl) ?_
    intro w13 hc2 hf2 hb2
    have Bw13 := Lib.hid (Bw12.out.below (hb2 w12.heap.size) (by omega))
    have Zw13 := Lib.hid (Zw12.out.below (hb2 w12.heap.size) (by omega))
    have Fw13 := Lib.hid (Fw12.out.below (hb2 w12.heap.size) (by omega))
    have Hw13 := Lib.hid (Hw12.out.trans (hb2 _))
    have hzw13 : w3.heap.size + 1 < w13.heap.size := Nat.lt_of_lt_of_le hzw12 (hb2 0).size
    clear hc2 hf2 hb2
    have ⟨fc1, ff1⟩ := k.cell_of Fw13.out (i := 1) rfl
    have ⟨bc10, bf10⟩ := k.cell_of Bw13.out (i := 10) rfl
    have ⟨bc11, bf11⟩ := k.cell_of Bw13.out (i := 11) rfl
    have ⟨bc12, bf12⟩ := k.cell_of Bw13.out (i := 12) rfl
    simp only [List.take_succ_cons, List.take_zero, List.drop_succ_cons, List.drop_zero]
    repeat still_step
    refine wpStill_step (fun K hK => ?_)
    go_simp
    refine ⟨.bool b3, W3.out w13, hK _ ?_⟩
    clear hK K
    refine wpStill_nil ?_
    go_upto_region 12 with (go_at_call 28; ((with_reducible refine (S3.out _).mono ?_); rintro e w14 ⟨rfl, hb⟩; have Bw14 := Lib.hid (Bw13.out.below hb (by omega)); have Zw14 := Lib.hid (Zw13.out.below hb (by omega)); have Fw14 := Lib.hid (Fw13.out.below hb (by omega)); have Hw14 := Lib.hid (Hw13.out.trans (hb.mono Hw13.out.size)); have x := hb.size; have hzw14 : w3.heap.size + 1 < w14.heap.size := (by omega); clear hb x fc1 ff1 bc10 bf10 bc11 bf11 bc12 bf12; have ⟨bc10, bf10⟩ := k.cell_of Bw14.out (i := 10) rfl; have ⟨bc11, bf11⟩ := k.cell_of Bw14.out (i := 11) rfl; have ⟨bc12, bf12⟩ := k.cell_of Bw14.out (i := 12) rfl))
    have b2 := (((Bw14.out.put 10 (by simp) (.int .i64 hc)).put 11 (by simp) (.bool hv2)).put 12 (by simp) (.int .i64 ho2))
    have z2 := (k.Box_aside (i := 12) (show w.heap.size ≠ w.heap.size + 1 by omega) (.int .i64 ho2) (k.Box_aside (i := 11) (show w.heap.size ≠ w.heap.size + 1 by omega) (.bool hv2) (k.Box_aside (i := 10) (show w.heap.size ≠ w.heap.size + 1 by omega) (.int .i64 hc) Zw14.out)))
    have f2 := (k.Box_aside (i := 12) (show w.heap.size ≠ w3.heap.size + 1 by omega) (.int .i64 ho2) (k.Box_aside (i := 11) (show w.heap.size ≠ w3.heap.size + 1 by omega) (.bool hv2) (k.Box_aside (i := 10) (show w.heap.size ≠ w3.heap.size + 1 by omega) (.int .i64 hc) Fw14.out)))
    have h2 : Below w.heap.size w (((w14.setCell ⟨w.heap.size, 10, none⟩ (.int .i64 hc)).setCell ⟨w.heap.size, 11, none⟩ (.bool hv2)).setCell ⟨w.heap.size, 12, none⟩ (.int .i64 ho2)) := (((Hw14.out.setCell (Nat.le_refl _) _).setCell (Nat.le_refl _) _).setCell (Nat.le_refl _) _)
    have s2 : ((((w14.setCell ⟨w.heap.size, 10, none⟩ (.int .i64 hc)).setCell ⟨w.heap.size, 11, none⟩ (.bool hv2)).setCell ⟨w.heap.size, 12, none⟩ (.int .i64 ho2))).heap.size = w14.heap.size := by simp
    generalize (((w14.setCell ⟨w.heap.size, 10, none⟩ (.int .i64 hc)).setCell ⟨w.heap.size, 11, none⟩ (.bool hv2)).setCell ⟨w.heap.size, 12, none⟩ (.int .i64 ho2)) = w15 at b2 z2 f2 h2 s2 ⊢
    have hzw15 : w3.heap.size + 1 < w15.heap.size := by omega
    have Bw15 : Hid (k.Box w15 w.heap.size 0 [.int .i64 V, .int .i64 lim, .int .i64 0, .int .i64 S, .int .i64 pc, .bool pv2, .int .i64 po2, .int .i64 mc, .bool mv2, .int .i64 mo2, .int .i64 hc, .bool hv2, .int .i64 ho2, .int .i64 P, .bool true, .int .i64 sq]) := Lib.hid b2
    have Zw15 := Lib.hid z2
    have Fw15 := Lib.hid f2
    have Hw15 := Lib.hid h2
    clear b2 z2 h2 s2 f2
    clear bc10 bf10 bc11 bf11 bc12 bf12
    go_step
    refine wpList_load_mid rfl 27 (.tmp 2) rfl w.heap.size 0 rfl [.int .i64 V, .int .i64 lim, .int .i64 0, .int .i64 S, .int .i64 pc, .bool pv2, .int .i64 po2, .int .i64 mc, .bool mv2, .int .i64 mo2, .int .i64 hc, .bool hv2, .int .i64 ho2, .int .i64 P, .bool true, .int .i64 sq] _ (Bw15.out.range) rfl rfl (by kernel_rfl) ?_
    refine wpList_store_mid rfl 27 (.tmp 4) (.tmp 54) rfl (w.heap.size + 1) 0 #[.int .i64 V, .int .i64 lim, .int .i64 0, .int .i64 S, .int .i64 pc, .bool pv2, .int .i64 po2, .int .i64 mc, .bool mv2, .int .i64 mo2, .int .i64 hc, .bool hv2, .int .i64 ho2, .int .i64 P, .bool true, .int .i64 sq] rfl rfl (k.there_of Zw15.out rfl) (by kernel_rfl) (by simp [Value.oneCell']) ?_
    obtain ⟨W, hW, h1, h2, h3, h5⟩ := k.stored (us := [.int .i64 V, .int .i64 lim, .int .i64 0, .int .i64 S, .int .i64 pc, .bool pv2, .int .i64 po2, .int .i64 mc, .bool mv2, .int .i64 mo2, .int .i64 hc, .bool hv2, .int .i64 ho2, .int .i64 P, .bool true, .int .i64 sq]) Zw15.out rfl
    change wpList _ _ _ _ _ (World.setCells _ _ _ [.int .i64 V, .int .i64 lim, .int .i64 0, .int .i64 S, .int .i64 pc, .bool pv2, .int .i64 po2, .int .i64 mc, .bool mv2, .int .i64 mo2, .int .i64 hc, .bool hv2, .int .i64 ho2, .int .i64 P, .bool true, .int .i64 sq])
    rw [hW]
    have H1 := Lib.hid h1
    have H3 := Lib.hid (h3 w.heap.size (by omega))
    clear hW h1 h2 h3 h5
    go_wp2
    refine bodyPost_ret (k.results_cell rfl rfl (run_loadVar_mid W (w.heap.size + 1) 0 27 _ _ H1.out.range rfl rfl (by kernel_rfl))) rfl ?_
    exact ⟨by rw [HK.out], Hw15.out.trans H3.out⟩
end Go.Proofs.Ytdfgjfojneoljaa.j
