/- The walk of the law SumOver: for any three texts it returns true, and what was in memory is as it was. -/
import Derived.Test.YtilafaokiakkbaaSOwn
import Derived.Deep.RegionHeld3
import Derived.Deep.Cut
namespace Go.Proofs.Ytilafaokiakkbaa.sumOver
open Go.ChangeShapes Go.WideShapes Go.ChangeAt Go.RowKit Go.Proofs.Ytilafaokiakkbaa.s Go.Proofs.Ytilafaokiakkbaa
set_option linter.unusedVariables false

theorem over_length (a b c : List (BitVec 8)) (n : Nat) : (over a b c n).length = n := by simp [over]
theorem first_over : first ^^^ first ^^^ first = first := by decide

/-- the sum, within a statement whose order is open -/
theorem of_quiet {l : List (BitVec 8)} {n B : Nat} {A : Option Addr} {W : World} {X : BitVec 16} (e : goV first l = X) (hn : l.length = n) (hl : l.length ≤ 10000) (h : Bytes W B A l) (cap q : Nat) :
    Calls Try.prog 8 #[.slice A n cap] (W.drewN q) fun e w'' => e = .returned (.int .u16 (v16 X)) ∧ ∃ m, w'' = W.drewN m :=
  (of_e e hn hl (show Bytes (W.drewN q) B A l from h) cap).mono fun _ _ h => ⟨h.1, q, h.2.symm⟩

set_option maxHeartbeats 1000000 in
theorem walk (a0 : Option Addr) (len0 cap0 : Nat) (z0 : List Int) (a1 : Option Addr) (len1 cap1 : Nat) (z1 : List Int) (a2 : Option Addr) (len2 cap2 : Nat) (z2 : List Int) (w : World) (w0 : IsRow .u8 w a0 len0 cap0 z0) (w1 : IsRow .u8 w a1 len1 cap1 z1) (w2 : IsRow .u8 w a2 len2 cap2 z2) :
    Calls Try.prog 6 #[.slice a0 len0 cap0, .slice a1 len1 cap1, .slice a2 len2 cap2] w fun e w' => e = .returned (.bool true) ∧ Below w.heap.size w w' := by
  obtain ⟨l0, rfl, hB0, hcap0, hmax0, hnil0, hspot0⟩ := bytes_of w0
  obtain ⟨l1, rfl, hB1, hcap1, hmax1, hnil1, hspot1⟩ := bytes_of w1
  obtain ⟨l2, rfl, hB2, hcap2, hmax2, hnil2, hspot2⟩ := bytes_of w2
  unfold maxLen at hmax0 hmax1 hmax2
  clear w0 w1 w2
  obtain ⟨n, hn, hn0, hn1, hn2, hn3⟩ : ∃ n : Nat, (n : Int) = min (min (min (l0.length : Int) (l1.length : Int)) (l2.length : Int)) 1000 ∧ n ≤ l0.length ∧ n ≤ l1.length ∧ n ≤ l2.length ∧ n ≤ 1000 :=
    ⟨(min (min (min (l0.length : Int) (l1.length : Int)) (l2.length : Int)) 1000).toNat, by omega, by omega, by omega, by omega, by omega⟩
  have hE : goV first (over l0 l1 l2 n) = goV first (l0.take n) ^^^ goV first (l1.take n) ^^^ goV first (l2.take n) := by
    have := goV_over first first first l0 l1 l2 n hn0 hn1 hn2
    rw [first_over] at this
    exact this
  have HE := Lib.hid hE
  have HN := Lib.hid hn
  have H0 := Lib.hid hB0
  have H1 := Lib.hid hB1
  have H2 := Lib.hid hB2
  have HS : Hid (∀ k, over l0 l1 l2 (k + 1) = over l0 l1 l2 k ++ [l0.getD k 0 ^^^ l1.getD k 0 ^^^ l2.getD k 0]) := Lib.hid fun k => over_succ l0 l1 l2 k
  clear hE hn hB0 hB1 hB2 hnil0 hnil1 hnil2 hspot0 hspot1 hspot2
  obtain ⟨L0, e0⟩ : ∃ L, l0.length = L := ⟨_, rfl⟩
  obtain ⟨L1, e1⟩ : ∃ L, l1.length = L := ⟨_, rfl⟩
  obtain ⟨L2, e2⟩ : ∃ L, l2.length = L := ⟨_, rfl⟩
  have HL := Lib.hid (show l0.length = L0 ∧ l1.length = L1 ∧ l2.length = L2 from ⟨e0, e1, e2⟩)
  rw [e0] at hcap0 hn0 HN ⊢
  rw [e1] at hcap1 hn1 HN ⊢
  rw [e2] at hcap2 hn2 HN ⊢
  clear e0 e1 e2
  have hmin : ∀ (W : World) (ts : Array TypeId) (t : TypeId), (Builtin.min_ ts t #[.int .i64 (L0 : Int), .int .i64 (L1 : Int), .int .i64 (L2 : Int), .int .i64 1000]).run Try.prog W = .ok (.int .i64 (n : Int)) W := by
    intro W ts t
    rw [HN.out]
    have e : ∀ x y : Int, (if y < x then y else x) = min x y := fun x y => by
      rw [Int.min_def]
      split <;> split <;> omega
    simp [Builtin.min_, Builtin.min2, e]
    split <;> omega
  go_enter Try.func6, Try.ntmps6
  go_wp2_with (go_at_call 7; ((with_reducible refine (awake_any _).mono ?_); rintro e w1 ⟨rfl, hb1⟩; have HB1 := Lib.hid hb1; clear hb1))
  go_loopw [8, 9] (fun v i wr => ∃ k : Nat, k ≤ n ∧ i = .int .i64 k ∧ Own wr w.heap.size v (over l0 l1 l2 k) ∧ Below w.heap.size w wr) (fun _ i _ => n - (intOf i).toNat)
  case atStart => exact ⟨0, Nat.zero_le _, rfl, World.ownsRow_nil _ _ _ _, HB1.out⟩
  case round =>
    obtain ⟨k, hk, rfl, hO, hb⟩ := hrel
    have HB := Lib.hid hb
    by_cases hlt : k < n
    · obtain ⟨b0, o0, rfl, hb0, hc0⟩ := H0.out (by have := HL.out.1; omega)
      obtain ⟨b1, o1, rfl, hb1, hc1⟩ := H1.out (by have := HL.out.2.1; omega)
      obtain ⟨b2, o2, rfl, hb2, hc2⟩ := H2.out (by have := HL.out.2.2; omega)
      have g0 := (hb.cell (p := ⟨b0, o0 + k, none⟩) hb0).trans (hc0 k (by have := HL.out.1; omega))
      have g1 := (hb.cell (p := ⟨b1, o1 + k, none⟩) hb1).trans (hc1 k (by have := HL.out.2.1; omega))
      have g2 := (hb.cell (p := ⟨b2, o2 + k, none⟩) hb2).trans (hc2 k (by have := HL.out.2.2; omega))
      have HO := Lib.hid hO
      have HK := Lib.hid (HS.out k)
      have hz := hb.size
      have z0 := Nat.lt_of_lt_of_le hb0 hz
      have z1 := Nat.lt_of_lt_of_le hb1 hz
      have z2 := Nat.lt_of_lt_of_le hb2 hz
      clear hb hO hc0 hc1 hc2
      generalize l0.getD k 0 = x0 at *
      generalize l1.getD k 0 = x1 at *
      generalize l2.getD k 0 = x2 at *
      have hx1 := xor8 x0 x1
      have hx2 := xor8 (x0 ^^^ x1) x2
      have hki : (k : Int) < (n : Int) := by omega
      have hk0 : (0 : Int) ≤ (k : Int) := by omega
      have hi0 : (k : Int) < (L0 : Int) := by omega
      have hi1 : (k : Int) < (L1 : Int) := by omega
      have hi2 : (k : Int) < (L2 : Int) := by omega
      go_wp2
      go_upto_region 8 with (fail)
      have ag0 : u8.ownBlock ≠ some b0 := fun h => by have := (HO.out.lt b0 h).1; omega
      have ag1 : u8.ownBlock ≠ some b1 := fun h => by have := (HO.out.lt b1 h).1; omega
      have ag2 : u8.ownBlock ≠ some b2 := fun h => by have := (HO.out.lt b2 h).1; omega
      have hlen : (over l0 l1 l2 k).length = k := over_length _ _ _ _
      go_region_held3 (fun w' => w'.cell? ⟨b0, o0 + k, none⟩ = some (.int .u8 (v8 x0)) ∧ w'.cell? ⟨b1, o1 + k, none⟩ = some (.int .u8 (v8 x1)) ∧ w'.cell? ⟨b2, o2 + k, none⟩ = some (.int .u8 (v8 x2)))
        (first
          | go_keep
          | (go_split_ands
             refine ⟨?_, ?_, ?_⟩
             · (rw [hgrow.cell_far _ (by simp; omega) (Ne.symm ag0)]; assumption)
             · (rw [hgrow.cell_far _ (by simp; omega) (Ne.symm ag1)]; assumption)
             · (rw [hgrow.cell_far _ (by simp; omega) (Ne.symm ag2)]; assumption)))
        ((refine step_append_bytes _ (by rfl) _ _ (by rfl) w.heap.size u8 (over l0 l1 l2 k) (by rfl) (HO.out.new _) (wr.heap.size + 1) (some ⟨wr.heap.size, 0, none⟩) 1 1 [x0 ^^^ x1 ^^^ x2] (by rfl) (by rfl) (one_bytes wr _ (x0 ^^^ x1 ^^^ x2)) (by intro h; cases h) (by simp [hlen]; omega) (by simp; omega) ?_; intro v' w2 hown' hgrow hat))
      have HW := Lib.hid hown'
      have HD := Lib.hid (Own.lays (w := (wr.alloc (.cells #[Value.int .u8 (v8 (x0 ^^^ x1 ^^^ x2))] 5)).drew) (HO.out.new _) (HB.out.alloc HB.out.size _).drew (Nat.le_refl _) (Nat.le_refl _) hgrow)
      clear hown' hgrow hat
      go_wp2
      go_roundw
      case rel => exact ⟨k + 1, by omega, by go_num, by rw [HK.out]; exact HW.out, HD.out⟩
      case measure => simp [intOf]; omega
    · have : k = n := by omega
      subst this
      obtain ⟨A4, c4, rfl, hB4, hc4, hm4, hX4⟩ := hO.form
      rw [over_length] at hc4 ⊢
      have q4 := Lib.hid hB4
      have q0 := Lib.hid ((H0.out.take k).below hb)
      have q1 := Lib.hid ((H1.out.take k).below hb)
      have q2 := Lib.hid ((H2.out.take k).below hb)
      have n0 : Hid ((l0.take k).length = k) := Lib.hid (by rw [List.length_take]; have := HL.out.1; omega)
      have n1 : Hid ((l1.take k).length = k) := Lib.hid (by rw [List.length_take]; have := HL.out.2.1; omega)
      have n2 : Hid ((l2.take k).length = k) := Lib.hid (by rw [List.length_take]; have := HL.out.2.2; omega)
      have n4 : Hid ((over l0 l1 l2 k).length = k) := Lib.hid (over_length _ _ _ _)
      have m0 : Hid ((l0.take k).length ≤ 10000) := Lib.hid (by rw [n0.out]; omega)
      have m1 : Hid ((l1.take k).length ≤ 10000) := Lib.hid (by rw [n1.out]; omega)
      have m2 : Hid ((l2.take k).length ≤ 10000) := Lib.hid (by rw [n2.out]; omega)
      have m4 : Hid ((over l0 l1 l2 k).length ≤ 10000) := Lib.hid (by rw [n4.out]; omega)
      have hx1 := xor16 (goV first (l0.take k)) (goV first (l1.take k))
      have hx2 := xor16 (goV first (l0.take k) ^^^ goV first (l1.take k)) (goV first (l2.take k))
      clear hO hb hB4 hm4 hX4 H0 H1 H2
      have hk0 : (0 : Int) ≤ (k : Int) := by omega
      go_wp2
      go_quiet ((first
        | (go_at_call 8; with_reducible exact of_quiet HE.out n4.out m4.out q4.out _ _)
        | (go_at_call 8; with_reducible exact of_quiet rfl n0.out m0.out q0.out _ _)
        | (go_at_call 8; with_reducible exact of_quiet rfl n1.out m1.out q1.out _ _)
        | (go_at_call 8; with_reducible exact of_quiet rfl n2.out m2.out q2.out _ _)))
      go_wp2
      go_ret
      exact ⟨rfl, below_drewN HB.out _⟩
end Go.Proofs.Ytilafaokiakkbaa.sumOver
