/- The walk of the law TokNumbers: whatever the number, in whatever base: it returns true, and what was in memory is as it was. -/
import Derived.Test.YthdkkdgjcfjinaaTkAwake
import Derived.Test.YthdkkdgjcfjinaaTkDigits
namespace Go.Proofs.Ythdkkdgjcfjinaa.tokNumbers
open Go.ChangeShapes Go.WideShapes Go.ChangeAt Go.RowKit Go.Proofs.Ythdkkdgjcfjinaa.k Go.Proofs.Ythdkkdgjcfjinaa.rr Go.Proofs.Ythdkkdgjcfjinaa.tk Go.Proofs.Ythdkkdgjcfjinaa
set_option linter.unusedVariables false

def isNone : Value → Nat
  | .string s => if s.size = 0 then 1 else 0
  | _ => 0
def ofD (ds : List Nat) : ByteArray := ⟨(ds.map dc).toArray⟩
theorem ofD_cons (d : Nat) (ds : List Nat) : (⟨#[dc d]⟩ : ByteArray) ++ ofD ds = ofD (d :: ds) := by
  apply ByteArray.ext
  apply Array.toList_inj.1
  rw [ByteArray.data_append]
  simp [ofD]
theorem ofD_nil (ds : List Nat) : ((ofD ds).toList == []) = ds.isEmpty := by
  rw [ByteArray.toList_eq]
  cases ds <;> simp [ofD]
theorem ofD_size (ds : List Nat) : (ofD ds).size = ds.length := by simp [ofD, ByteArray.size]
theorem isNone_cons (d : Nat) (ds : List Nat) : isNone (.string (ofD (d :: ds))) = 0 := by
  have h := ofD_size (d :: ds)
  simp only [isNone, h, List.length_cons]
  rw [if_neg (by omega)]
theorem m_le {b m x : Nat} {ds : List Nat} (hb : 2 ≤ b) (h : m * b ^ ds.length + val b ds = x) : m ≤ x := by
  have := Nat.le_mul_of_pos_right m (Nat.pow_pos (n := ds.length) (show 0 < b by omega))
  omega
def numText (hd : List UInt8) (ds : List Nat) : List UInt8 := hd ++ 48 :: 48 :: ds.map dc
theorem tx_list (l : List UInt8) : (⟨l.toArray⟩ : ByteArray).data.toList = l := rfl
theorem numText_size (hd : List UInt8) (ds : List Nat) : (⟨(numText hd ds).toArray⟩ : ByteArray).size = hd.length + 2 + ds.length := by
  simp [ByteArray.size, numText]
  omega
theorem numText_cat (hd : List UInt8) (ds : List Nat) : (⟨(hd ++ [48, 48]).toArray⟩ : ByteArray) ++ ofD ds = ⟨(numText hd ds).toArray⟩ := by
  apply ByteArray.ext
  apply Array.toList_inj.1
  rw [ByteArray.data_append]
  simp [ofD, numText]
theorem small {b m x : Nat} {ds : List Nat} (hb : 2 ≤ b) (hm : 0 < m) (h : m * b ^ ds.length + val b ds = x) (hx : x ≤ 9223372036854775808) : ds.length ≤ 63 := by
  rcases Nat.lt_or_ge 63 ds.length with h1 | h1
  · have h2 : 2 ^ 64 ≤ b ^ ds.length := Nat.le_trans (Nat.pow_le_pow_right (by omega) h1) (Nat.pow_le_pow_left hb _)
    have h3 : b ^ ds.length ≤ m * b ^ ds.length := Nat.le_mul_of_pos_left _ hm
    have h4 : (2 : Nat) ^ 64 = 18446744073709551616 := by decide
    omega
  · exact h1
theorem lex_digits {b h : Nat} {hd : List UInt8} (hbh : (b = 10 ∧ h = 0 ∧ hd = []) ∨ (b = 2 ∧ h = 2 ∧ hd = [50, 35]) ∨ (b = 8 ∧ h = 2 ∧ hd = [56, 35]) ∨ (b = 16 ∧ h = 3 ∧ hd = [49, 54, 35])) {ds : List Nat} (hds : ∀ d ∈ ds, d < b) (hl : ds.length ≤ 64) :
    lex (numText hd ds) = if 9223372036854775807 < val b ds then (2, [], atP (plc [])) else (0, [⟨3, numText hd ds, val b ds, (plc []).1, (plc []).2⟩, atP (plc (numText hd ds))], zeroT) := by
  unfold numText
  have hv : val b (0 :: 0 :: ds) = val b ds := by rw [val_cons, val_cons]; simp
  have hb : b ≤ 16 ∧ 2 ≤ b := by rcases hbh with h | h | h | h <;> omega
  have hD : digs b (48 :: 48 :: ds.map dc) = 0 :: 0 :: ds := digs_map (ds := 0 :: 0 :: ds) hb.1 (by
    intro d hd
    rcases List.mem_cons.1 hd with rfl | hd
    · omega
    · rcases List.mem_cons.1 hd with rfl | hd
      · omega
      · exact hds d hd)
  rw [← hv]
  rcases hbh with ⟨rfl, rfl, rfl⟩ | ⟨rfl, rfl, rfl⟩ | ⟨rfl, rfl, rfl⟩ | ⟨rfl, rfl, rfl⟩
  · exact lex_num (c := 48) (l := 48 :: ds.map dc) (h := 0) rfl rfl rfl hD (by simp) (by simp) (by simp; omega)
  · exact lex_num (c := 50) (l := 35 :: 48 :: 48 :: ds.map dc) (h := 2) rfl rfl rfl hD (by simp; omega) (by simp) (by simp; omega)
  · exact lex_num (c := 56) (l := 35 :: 48 :: 48 :: ds.map dc) (h := 2) rfl rfl rfl hD (by simp; omega) (by simp) (by simp; omega)
  · exact lex_num (c := 49) (l := 54 :: 35 :: 48 :: 48 :: ds.map dc) (h := 3) rfl rfl rfl hD (by simp; omega) (by simp) (by simp; omega)
set_option maxRecDepth 100000 in
set_option maxHeartbeats 16000000 in
theorem walk (n z : Int) (more : Bool) (w : World) (hn : (Lit.int .i64 n).wf = true) (hz : (Lit.int .u8 z).wf = true) (hM : MaxL w) :
    Calls Try.prog 6 #[.int .i64 n, .int .u8 z, .bool more] w fun e w' => e = .returned (.bool true) ∧ Below w.heap.size w w' := by
  have HK := Lib.hid (awake_any w hM)
  have MX := Lib.hid hM
  clear hM
  have hn := wf64 hn
  have hz := wf8 hz
  by_cases hneg : n < 0
  · go_enter Try.func6, Try.ntmps6
    go_wp2_with (go_at_call 7; ((with_reducible refine (HK.out).mono ?_); rintro e w2 ⟨rfl, hb⟩; have HB := Lib.hid hb; clear hb HK))
    go_ret
    exact ⟨rfl, HB.out⟩
  · obtain ⟨n, rfl⟩ : ∃ k : Nat, n = k := ⟨n.toNat, by omega⟩
    have hn2 : n ≤ 9223372036854775807 := by omega
    have wu : IntKind.u64.wrap (n : Int) = n := by rw [IntKind.wrap_u64]; omega
    have hneg : ¬ ((n : Int) < 0) := by omega
    clear hn
    have h4 : z % 4 = 0 ∨ z % 4 = 1 ∨ z % 4 = 2 ∨ z % 4 = 3 := by omega
    have HD := Lib.hid fun d (h : d < 16) => (dc_at h).2
    have HC := Lib.hid ofD_cons
    have HN := Lib.hid ofD_nil
    rcases h4 with h4 | h4 | h4 | h4
    · cases more
      · have _ := hn2
        go_enter Try.func6, Try.ntmps6
        go_upto_region 12 with (go_at_call 7; ((with_reducible refine (HK.out).mono ?_); rintro e w2 ⟨rfl, hb⟩; have HB := Lib.hid hb; clear hb HK))
        obtain ⟨w4, hw4, hb4⟩ : ∃ W, W = (w2.alloc (.cells #[.int .u64 10, .int .u64 2, .int .u64 8, .int .u64 16] 36)).alloc (.cells #[.string ⟨#[]⟩, .string ⟨#[50, 35]⟩, .string ⟨#[56, 35]⟩, .string ⟨#[49, 54, 35]⟩] 9) ∧ Below w2.heap.size w2 W := ⟨_, rfl, ((Below.refl _ _).alloc (Nat.le_refl _) _).alloc (by simp) _⟩
        rw [← hw4]
        have HB4 := Lib.hid (HB.out.trans (hb4.mono HB.out.size))
        clear hw4 hb4 HB
        go_loopw [10, 11] (fun s10 s11 wr => ∃ (ds : List Nat) (m : Nat), s10 = .string (ofD ds) ∧ s11 = .int .u64 m ∧ (∀ d ∈ ds, d < 10) ∧ ds.length ≤ 64 ∧ m * 10 ^ ds.length + val 10 ds = n ∧ wr = w4) (fun s10 s11 _ => (intOf s11).toNat + isNone s10)
        case atStart => exact ⟨[], n, rfl, rfl, (fun d h => by cases h), by simp, by simp [val], rfl⟩
        case round =>
          obtain ⟨ds, m, rfl, rfl, hds, hlen, hval, rfl⟩ := hrel
          have hE := HN.out ds
          have HDS := Lib.hid hds
          have HL := Lib.hid hlen
          have HV := Lib.hid hval
          clear hds hlen hval
          by_cases hgo : 0 < m ∨ ds = []
          · obtain ⟨d, hd⟩ : ∃ d, m % 10 = d := ⟨_, rfl⟩
            obtain ⟨q, hq⟩ : ∃ q, m / 10 = q := ⟨_, rfl⟩
            have hd1 : d < 10 := by omega
            have e1 : (m : Int) % 10 = d := by omega
            have e2 : (m : Int) / 10 = q := by omega
            have hex := HD.out d (by omega)
            have hcc := HC.out d ds
            have HQ := Lib.hid (show q < m ∨ (q = 0 ∧ m = 0) by omega)
            have HM := Lib.hid (show m / 10 = q ∧ m % 10 = d from ⟨hq, hd⟩)
            have wd : IntKind.u64.wrap ((d : Int) + 1) = d + 1 := by rw [IntKind.wrap_u64]; omega
            have y1 : (0 : Int) ≤ d := by omega
            have y2 : (d : Int) ≤ d + 1 := by omega
            have y3 : (d : Int) + 1 ≤ 16 := by omega
            have y4 : ((d : Int) + 1).toNat = d + 1 := by omega
            have HD1 := Lib.hid hd1
            have HGO := Lib.hid hgo
            clear hd hq hd1 hgo
            have hmle := m_le (by omega) HV.out
            have w6 : IntKind.u64.wrap (q : Int) = q := by rw [IntKind.wrap_u64]; have := HQ.out; omega
            have hsz : ¬ 9223372036854775807 < 1 + (ofD ds).size := by rw [ofD_size]; have := HL.out; omega
            by_cases hm0 : 0 < m
            · have hmz : (0 : Int) < m := by omega
              have HSM := Lib.hid (small (by omega) hm0 HV.out (by omega))
              clear hE
              go_wp2_with fail
              go_roundw
              case rel =>
                have hm := HM.out
                have hs := val_step HV.out
                rw [hm.1, hm.2] at hs
                exact ⟨d :: ds, q, rfl, rfl, List.forall_mem_cons.2 ⟨HD1.out, HDS.out⟩, by have := HSM.out; simp; omega, hs, trivial⟩
              case measure =>
                have hq := HQ.out
                have h1 := isNone_cons d ds
                show (intOf (.int .u64 q)).toNat + isNone (.string (ofD (d :: ds))) < (intOf (.int .u64 m)).toNat + isNone (.string (ofD ds))
                rw [h1]
                simp [intOf]
                omega
            · have hm1 : m = 0 := by omega
              have hd1 : ds = [] := HGO.out.resolve_left hm0
              subst hm1 hd1
              have hE1 : ((ofD []).toList == []) = true := hE
              obtain rfl : q = 0 := by have := HM.out.1; simpa using this.symm
              obtain rfl : d = 0 := by have := HM.out.2; simpa using this.symm
              have hex1 : (⟨#[48, 49, 50, 51, 52, 53, 54, 55, 56, 57, 65, 66, 67, 68, 69, 70]⟩ : ByteArray).extract 0 1 = ⟨#[dc 0]⟩ := hex
              clear hE hm0 hex e1 e2 y1 y2 y3 y4
              go_wp2_with fail
              go_roundw
              case rel =>
                have hm := HM.out
                have hs := val_step HV.out
                rw [hm.1, hm.2] at hs
                exact ⟨[0], 0, rfl, rfl, List.forall_mem_cons.2 ⟨HD1.out, HDS.out⟩, by simp, hs, trivial⟩
              case measure =>
                have hq := HQ.out
                have h1 := isNone_cons 0 []
                have h2 : isNone (.string (ofD [])) = 1 := rfl
                show (intOf (.int .u64 0)).toNat + isNone (.string (ofD (0 :: []))) < (intOf (.int .u64 (0 : Nat))).toNat + isNone (.string (ofD []))
                rw [h1, h2]
                simp [intOf]
          · have hm0 : m = 0 := by omega
            have hne : ds ≠ [] := fun h => hgo (.inr h)
            subst hm0
            have hE1 : ((ofD ds).toList == []) = false := by
              rw [hE]
              cases ds with
              | nil => exact absurd rfl hne
              | cons _ _ => rfl
            have hval : val 10 ds = n := by have := HV.out; rw [Nat.zero_mul, Nat.zero_add] at this; exact this
            have hc1 : (⟨#[]⟩ : ByteArray) ++ ⟨#[48, 48]⟩ = ⟨#[48, 48]⟩ := by kernel_rfl
            have hc2 : (⟨#[48, 48]⟩ : ByteArray) ++ ofD ds = ⟨(numText [] ds).toArray⟩ := numText_cat [] ds
            have hsz1 : ¬ 9223372036854775807 < 2 + (ofD ds).size := by rw [ofD_size]; have := HL.out; omega
            have hlx := lex_digits (b := 10) (h := 0) (hd := []) (by decide) HDS.out HL.out
            have hts : (⟨(numText [] ds).toArray⟩ : ByteArray).size ≤ 20000 := by
              have := HL.out
              rw [numText_size]
              simp
              omega
            have LX := Lib.hid fun W (hMW : MaxL W) => lex_any ⟨(numText [] ds).toArray⟩ hts W hMW
            unfold GotL at LX
            rw [hval, if_neg (by omega)] at hlx
            rw [tx_list, hlx] at LX
            simp only at LX
            generalize (⟨(numText [] ds).toArray⟩ : ByteArray) = tx at *
            rw [show (tC zeroT).toArray = #[.int .i64 0, .string ⟨#[]⟩, .int .i64 0, .int .i64 0, .int .i64 0] from rfl] at LX
            clear hlx hts hval hne hgo hE
            go_wp2_with (go_at_call 8; ((with_reducible refine (LX.out _ (MX.out.below HB4.out)).mono ?_); rintro e w5 ⟨A, n', c, rfl, hr, hb⟩; obtain rfl : 2 = n' := hr.1; (have hcap : 2 ≤ c := hr.2.1); (obtain ⟨bk, off, rfl, hbw, hc⟩ := hr.2.2.2.2 (by omega)); (have q1 := hc 0 _ rfl 0 _ rfl); (have q2 := hc 0 _ rfl 2 _ rfl); simp only [Nat.zero_mul, Nat.add_zero] at q1 q2; have B5 := Lib.hid (HB4.out.trans (hb.mono HB4.out.size)); clear hr hb hc))
            go_ret
            exact ⟨rfl, B5.out.trans ((Below.refl _ _).alloc B5.out.size _)⟩
      · have _ := hn2
        go_enter Try.func6, Try.ntmps6
        go_upto_region 12 with (go_at_call 7; ((with_reducible refine (HK.out).mono ?_); rintro e w2 ⟨rfl, hb⟩; have HB := Lib.hid hb; clear hb HK))
        obtain ⟨w4, hw4, hb4⟩ : ∃ W, W = (w2.alloc (.cells #[.int .u64 10, .int .u64 2, .int .u64 8, .int .u64 16] 36)).alloc (.cells #[.string ⟨#[]⟩, .string ⟨#[50, 35]⟩, .string ⟨#[56, 35]⟩, .string ⟨#[49, 54, 35]⟩] 9) ∧ Below w2.heap.size w2 W := ⟨_, rfl, ((Below.refl _ _).alloc (Nat.le_refl _) _).alloc (by simp) _⟩
        rw [← hw4]
        have HB4 := Lib.hid (HB.out.trans (hb4.mono HB.out.size))
        clear hw4 hb4 HB
        go_loopw [10, 11] (fun s10 s11 wr => ∃ (ds : List Nat) (m : Nat), s10 = .string (ofD ds) ∧ s11 = .int .u64 m ∧ (∀ d ∈ ds, d < 10) ∧ ds.length ≤ 64 ∧ m * 10 ^ ds.length + val 10 ds = 9223372036854775808 ∧ wr = w4) (fun s10 s11 _ => (intOf s11).toNat + isNone s10)
        case atStart => exact ⟨[], 9223372036854775808, rfl, rfl, (fun d h => by cases h), by simp, by simp [val], rfl⟩
        case round =>
          obtain ⟨ds, m, rfl, rfl, hds, hlen, hval, rfl⟩ := hrel
          have hE := HN.out ds
          have HDS := Lib.hid hds
          have HL := Lib.hid hlen
          have HV := Lib.hid hval
          clear hds hlen hval
          by_cases hgo : 0 < m ∨ ds = []
          · obtain ⟨d, hd⟩ : ∃ d, m % 10 = d := ⟨_, rfl⟩
            obtain ⟨q, hq⟩ : ∃ q, m / 10 = q := ⟨_, rfl⟩
            have hd1 : d < 10 := by omega
            have e1 : (m : Int) % 10 = d := by omega
            have e2 : (m : Int) / 10 = q := by omega
            have hex := HD.out d (by omega)
            have hcc := HC.out d ds
            have HQ := Lib.hid (show q < m ∨ (q = 0 ∧ m = 0) by omega)
            have HM := Lib.hid (show m / 10 = q ∧ m % 10 = d from ⟨hq, hd⟩)
            have wd : IntKind.u64.wrap ((d : Int) + 1) = d + 1 := by rw [IntKind.wrap_u64]; omega
            have y1 : (0 : Int) ≤ d := by omega
            have y2 : (d : Int) ≤ d + 1 := by omega
            have y3 : (d : Int) + 1 ≤ 16 := by omega
            have y4 : ((d : Int) + 1).toNat = d + 1 := by omega
            have HD1 := Lib.hid hd1
            have HGO := Lib.hid hgo
            clear hd hq hd1 hgo
            have hmle := m_le (by omega) HV.out
            have w6 : IntKind.u64.wrap (q : Int) = q := by rw [IntKind.wrap_u64]; have := HQ.out; omega
            have hsz : ¬ 9223372036854775807 < 1 + (ofD ds).size := by rw [ofD_size]; have := HL.out; omega
            by_cases hm0 : 0 < m
            · have hmz : (0 : Int) < m := by omega
              have HSM := Lib.hid (small (by omega) hm0 HV.out (by omega))
              clear hE
              go_wp2_with fail
              go_roundw
              case rel =>
                have hm := HM.out
                have hs := val_step HV.out
                rw [hm.1, hm.2] at hs
                exact ⟨d :: ds, q, rfl, rfl, List.forall_mem_cons.2 ⟨HD1.out, HDS.out⟩, by have := HSM.out; simp; omega, hs, trivial⟩
              case measure =>
                have hq := HQ.out
                have h1 := isNone_cons d ds
                show (intOf (.int .u64 q)).toNat + isNone (.string (ofD (d :: ds))) < (intOf (.int .u64 m)).toNat + isNone (.string (ofD ds))
                rw [h1]
                simp [intOf]
                omega
            · have hm1 : m = 0 := by omega
              have hd1 : ds = [] := HGO.out.resolve_left hm0
              subst hm1 hd1
              have hE1 : ((ofD []).toList == []) = true := hE
              obtain rfl : q = 0 := by have := HM.out.1; simpa using this.symm
              obtain rfl : d = 0 := by have := HM.out.2; simpa using this.symm
              have hex1 : (⟨#[48, 49, 50, 51, 52, 53, 54, 55, 56, 57, 65, 66, 67, 68, 69, 70]⟩ : ByteArray).extract 0 1 = ⟨#[dc 0]⟩ := hex
              clear hE hm0 hex e1 e2 y1 y2 y3 y4
              go_wp2_with fail
              go_roundw
              case rel =>
                have hm := HM.out
                have hs := val_step HV.out
                rw [hm.1, hm.2] at hs
                exact ⟨[0], 0, rfl, rfl, List.forall_mem_cons.2 ⟨HD1.out, HDS.out⟩, by simp, hs, trivial⟩
              case measure =>
                have hq := HQ.out
                have h1 := isNone_cons 0 []
                have h2 : isNone (.string (ofD [])) = 1 := rfl
                show (intOf (.int .u64 0)).toNat + isNone (.string (ofD (0 :: []))) < (intOf (.int .u64 (0 : Nat))).toNat + isNone (.string (ofD []))
                rw [h1, h2]
                simp [intOf]
          · have hm0 : m = 0 := by omega
            have hne : ds ≠ [] := fun h => hgo (.inr h)
            subst hm0
            have hE1 : ((ofD ds).toList == []) = false := by
              rw [hE]
              cases ds with
              | nil => exact absurd rfl hne
              | cons _ _ => rfl
            have hval : val 10 ds = 9223372036854775808 := by have := HV.out; rw [Nat.zero_mul, Nat.zero_add] at this; exact this
            have hc1 : (⟨#[]⟩ : ByteArray) ++ ⟨#[48, 48]⟩ = ⟨#[48, 48]⟩ := by kernel_rfl
            have hc2 : (⟨#[48, 48]⟩ : ByteArray) ++ ofD ds = ⟨(numText [] ds).toArray⟩ := numText_cat [] ds
            have hsz1 : ¬ 9223372036854775807 < 2 + (ofD ds).size := by rw [ofD_size]; have := HL.out; omega
            have hlx := lex_digits (b := 10) (h := 0) (hd := []) (by decide) HDS.out HL.out
            have hts : (⟨(numText [] ds).toArray⟩ : ByteArray).size ≤ 20000 := by
              have := HL.out
              rw [numText_size]
              simp
              omega
            have LX := Lib.hid fun W (hMW : MaxL W) => lex_any ⟨(numText [] ds).toArray⟩ hts W hMW
            unfold GotL at LX
            rw [hval, if_pos (by decide)] at hlx
            rw [tx_list, hlx] at LX
            simp only at LX
            generalize (⟨(numText [] ds).toArray⟩ : ByteArray) = tx at *
            rw [show (tC (atP (plc []))).toArray = #[.int .i64 0, .string ⟨#[]⟩, .int .i64 0, .int .i64 1, .int .i64 1] from rfl] at LX
            clear hlx hts hval hne hgo hE
            go_wp2_with (go_at_call 8; ((with_reducible refine (LX.out _ (MX.out.below HB4.out)).mono ?_); rintro e w5 ⟨A, n', c, rfl, hr, hb⟩; have B5 := Lib.hid (HB4.out.trans (hb.mono HB4.out.size)); clear hr hb))
            go_ret
            exact ⟨rfl, B5.out.trans ((Below.refl _ _).alloc B5.out.size _)⟩
    · cases more
      · have _ := hn2
        go_enter Try.func6, Try.ntmps6
        go_upto_region 12 with (go_at_call 7; ((with_reducible refine (HK.out).mono ?_); rintro e w2 ⟨rfl, hb⟩; have HB := Lib.hid hb; clear hb HK))
        obtain ⟨w4, hw4, hb4⟩ : ∃ W, W = (w2.alloc (.cells #[.int .u64 10, .int .u64 2, .int .u64 8, .int .u64 16] 36)).alloc (.cells #[.string ⟨#[]⟩, .string ⟨#[50, 35]⟩, .string ⟨#[56, 35]⟩, .string ⟨#[49, 54, 35]⟩] 9) ∧ Below w2.heap.size w2 W := ⟨_, rfl, ((Below.refl _ _).alloc (Nat.le_refl _) _).alloc (by simp) _⟩
        rw [← hw4]
        have HB4 := Lib.hid (HB.out.trans (hb4.mono HB.out.size))
        clear hw4 hb4 HB
        go_loopw [10, 11] (fun s10 s11 wr => ∃ (ds : List Nat) (m : Nat), s10 = .string (ofD ds) ∧ s11 = .int .u64 m ∧ (∀ d ∈ ds, d < 2) ∧ ds.length ≤ 64 ∧ m * 2 ^ ds.length + val 2 ds = n ∧ wr = w4) (fun s10 s11 _ => (intOf s11).toNat + isNone s10)
        case atStart => exact ⟨[], n, rfl, rfl, (fun d h => by cases h), by simp, by simp [val], rfl⟩
        case round =>
          obtain ⟨ds, m, rfl, rfl, hds, hlen, hval, rfl⟩ := hrel
          have hE := HN.out ds
          have HDS := Lib.hid hds
          have HL := Lib.hid hlen
          have HV := Lib.hid hval
          clear hds hlen hval
          by_cases hgo : 0 < m ∨ ds = []
          · obtain ⟨d, hd⟩ : ∃ d, m % 2 = d := ⟨_, rfl⟩
            obtain ⟨q, hq⟩ : ∃ q, m / 2 = q := ⟨_, rfl⟩
            have hd1 : d < 2 := by omega
            have e1 : (m : Int) % 2 = d := by omega
            have e2 : (m : Int) / 2 = q := by omega
            have hex := HD.out d (by omega)
            have hcc := HC.out d ds
            have HQ := Lib.hid (show q < m ∨ (q = 0 ∧ m = 0) by omega)
            have HM := Lib.hid (show m / 2 = q ∧ m % 2 = d from ⟨hq, hd⟩)
            have wd : IntKind.u64.wrap ((d : Int) + 1) = d + 1 := by rw [IntKind.wrap_u64]; omega
            have y1 : (0 : Int) ≤ d := by omega
            have y2 : (d : Int) ≤ d + 1 := by omega
            have y3 : (d : Int) + 1 ≤ 16 := by omega
            have y4 : ((d : Int) + 1).toNat = d + 1 := by omega
            have HD1 := Lib.hid hd1
            have HGO := Lib.hid hgo
            clear hd hq hd1 hgo
            have hmle := m_le (by omega) HV.out
            have w6 : IntKind.u64.wrap (q : Int) = q := by rw [IntKind.wrap_u64]; have := HQ.out; omega
            have hsz : ¬ 9223372036854775807 < 1 + (ofD ds).size := by rw [ofD_size]; have := HL.out; omega
            by_cases hm0 : 0 < m
            · have hmz : (0 : Int) < m := by omega
              have HSM := Lib.hid (small (by omega) hm0 HV.out (by omega))
              clear hE
              go_wp2_with fail
              go_roundw
              case rel =>
                have hm := HM.out
                have hs := val_step HV.out
                rw [hm.1, hm.2] at hs
                exact ⟨d :: ds, q, rfl, rfl, List.forall_mem_cons.2 ⟨HD1.out, HDS.out⟩, by have := HSM.out; simp; omega, hs, trivial⟩
              case measure =>
                have hq := HQ.out
                have h1 := isNone_cons d ds
                show (intOf (.int .u64 q)).toNat + isNone (.string (ofD (d :: ds))) < (intOf (.int .u64 m)).toNat + isNone (.string (ofD ds))
                rw [h1]
                simp [intOf]
                omega
            · have hm1 : m = 0 := by omega
              have hd1 : ds = [] := HGO.out.resolve_left hm0
              subst hm1 hd1
              have hE1 : ((ofD []).toList == []) = true := hE
              obtain rfl : q = 0 := by have := HM.out.1; simpa using this.symm
              obtain rfl : d = 0 := by have := HM.out.2; simpa using this.symm
              have hex1 : (⟨#[48, 49, 50, 51, 52, 53, 54, 55, 56, 57, 65, 66, 67, 68, 69, 70]⟩ : ByteArray).extract 0 1 = ⟨#[dc 0]⟩ := hex
              clear hE hm0 hex e1 e2 y1 y2 y3 y4
              go_wp2_with fail
              go_roundw
              case rel =>
                have hm := HM.out
                have hs := val_step HV.out
                rw [hm.1, hm.2] at hs
                exact ⟨[0], 0, rfl, rfl, List.forall_mem_cons.2 ⟨HD1.out, HDS.out⟩, by simp, hs, trivial⟩
              case measure =>
                have hq := HQ.out
                have h1 := isNone_cons 0 []
                have h2 : isNone (.string (ofD [])) = 1 := rfl
                show (intOf (.int .u64 0)).toNat + isNone (.string (ofD (0 :: []))) < (intOf (.int .u64 (0 : Nat))).toNat + isNone (.string (ofD []))
                rw [h1, h2]
                simp [intOf]
          · have hm0 : m = 0 := by omega
            have hne : ds ≠ [] := fun h => hgo (.inr h)
            subst hm0
            have hE1 : ((ofD ds).toList == []) = false := by
              rw [hE]
              cases ds with
              | nil => exact absurd rfl hne
              | cons _ _ => rfl
            have hval : val 2 ds = n := by have := HV.out; rw [Nat.zero_mul, Nat.zero_add] at this; exact this
            have hc1 : (⟨#[50, 35]⟩ : ByteArray) ++ ⟨#[48, 48]⟩ = ⟨#[50, 35, 48, 48]⟩ := by kernel_rfl
            have hc2 : (⟨#[50, 35, 48, 48]⟩ : ByteArray) ++ ofD ds = ⟨(numText [50, 35] ds).toArray⟩ := numText_cat [50, 35] ds
            have hsz1 : ¬ 9223372036854775807 < 4 + (ofD ds).size := by rw [ofD_size]; have := HL.out; omega
            have hlx := lex_digits (b := 2) (h := 2) (hd := [50, 35]) (by decide) HDS.out HL.out
            have hts : (⟨(numText [50, 35] ds).toArray⟩ : ByteArray).size ≤ 20000 := by
              have := HL.out
              rw [numText_size]
              simp
              omega
            have LX := Lib.hid fun W (hMW : MaxL W) => lex_any ⟨(numText [50, 35] ds).toArray⟩ hts W hMW
            unfold GotL at LX
            rw [hval, if_neg (by omega)] at hlx
            rw [tx_list, hlx] at LX
            simp only at LX
            generalize (⟨(numText [50, 35] ds).toArray⟩ : ByteArray) = tx at *
            rw [show (tC zeroT).toArray = #[.int .i64 0, .string ⟨#[]⟩, .int .i64 0, .int .i64 0, .int .i64 0] from rfl] at LX
            clear hlx hts hval hne hgo hE
            go_wp2_with (go_at_call 8; ((with_reducible refine (LX.out _ (MX.out.below HB4.out)).mono ?_); rintro e w5 ⟨A, n', c, rfl, hr, hb⟩; obtain rfl : 2 = n' := hr.1; (have hcap : 2 ≤ c := hr.2.1); (obtain ⟨bk, off, rfl, hbw, hc⟩ := hr.2.2.2.2 (by omega)); (have q1 := hc 0 _ rfl 0 _ rfl); (have q2 := hc 0 _ rfl 2 _ rfl); simp only [Nat.zero_mul, Nat.add_zero] at q1 q2; have B5 := Lib.hid (HB4.out.trans (hb.mono HB4.out.size)); clear hr hb hc))
            go_ret
            exact ⟨rfl, B5.out.trans ((Below.refl _ _).alloc B5.out.size _)⟩
      · have _ := hn2
        go_enter Try.func6, Try.ntmps6
        go_upto_region 12 with (go_at_call 7; ((with_reducible refine (HK.out).mono ?_); rintro e w2 ⟨rfl, hb⟩; have HB := Lib.hid hb; clear hb HK))
        obtain ⟨w4, hw4, hb4⟩ : ∃ W, W = (w2.alloc (.cells #[.int .u64 10, .int .u64 2, .int .u64 8, .int .u64 16] 36)).alloc (.cells #[.string ⟨#[]⟩, .string ⟨#[50, 35]⟩, .string ⟨#[56, 35]⟩, .string ⟨#[49, 54, 35]⟩] 9) ∧ Below w2.heap.size w2 W := ⟨_, rfl, ((Below.refl _ _).alloc (Nat.le_refl _) _).alloc (by simp) _⟩
        rw [← hw4]
        have HB4 := Lib.hid (HB.out.trans (hb4.mono HB.out.size))
        clear hw4 hb4 HB
        go_loopw [10, 11] (fun s10 s11 wr => ∃ (ds : List Nat) (m : Nat), s10 = .string (ofD ds) ∧ s11 = .int .u64 m ∧ (∀ d ∈ ds, d < 2) ∧ ds.length ≤ 64 ∧ m * 2 ^ ds.length + val 2 ds = 9223372036854775808 ∧ wr = w4) (fun s10 s11 _ => (intOf s11).toNat + isNone s10)
        case atStart => exact ⟨[], 9223372036854775808, rfl, rfl, (fun d h => by cases h), by simp, by simp [val], rfl⟩
        case round =>
          obtain ⟨ds, m, rfl, rfl, hds, hlen, hval, rfl⟩ := hrel
          have hE := HN.out ds
          have HDS := Lib.hid hds
          have HL := Lib.hid hlen
          have HV := Lib.hid hval
          clear hds hlen hval
          by_cases hgo : 0 < m ∨ ds = []
          · obtain ⟨d, hd⟩ : ∃ d, m % 2 = d := ⟨_, rfl⟩
            obtain ⟨q, hq⟩ : ∃ q, m / 2 = q := ⟨_, rfl⟩
            have hd1 : d < 2 := by omega
            have e1 : (m : Int) % 2 = d := by omega
            have e2 : (m : Int) / 2 = q := by omega
            have hex := HD.out d (by omega)
            have hcc := HC.out d ds
            have HQ := Lib.hid (show q < m ∨ (q = 0 ∧ m = 0) by omega)
            have HM := Lib.hid (show m / 2 = q ∧ m % 2 = d from ⟨hq, hd⟩)
            have wd : IntKind.u64.wrap ((d : Int) + 1) = d + 1 := by rw [IntKind.wrap_u64]; omega
            have y1 : (0 : Int) ≤ d := by omega
            have y2 : (d : Int) ≤ d + 1 := by omega
            have y3 : (d : Int) + 1 ≤ 16 := by omega
            have y4 : ((d : Int) + 1).toNat = d + 1 := by omega
            have HD1 := Lib.hid hd1
            have HGO := Lib.hid hgo
            clear hd hq hd1 hgo
            have hmle := m_le (by omega) HV.out
            have w6 : IntKind.u64.wrap (q : Int) = q := by rw [IntKind.wrap_u64]; have := HQ.out; omega
            have hsz : ¬ 9223372036854775807 < 1 + (ofD ds).size := by rw [ofD_size]; have := HL.out; omega
            by_cases hm0 : 0 < m
            · have hmz : (0 : Int) < m := by omega
              have HSM := Lib.hid (small (by omega) hm0 HV.out (by omega))
              clear hE
              go_wp2_with fail
              go_roundw
              case rel =>
                have hm := HM.out
                have hs := val_step HV.out
                rw [hm.1, hm.2] at hs
                exact ⟨d :: ds, q, rfl, rfl, List.forall_mem_cons.2 ⟨HD1.out, HDS.out⟩, by have := HSM.out; simp; omega, hs, trivial⟩
              case measure =>
                have hq := HQ.out
                have h1 := isNone_cons d ds
                show (intOf (.int .u64 q)).toNat + isNone (.string (ofD (d :: ds))) < (intOf (.int .u64 m)).toNat + isNone (.string (ofD ds))
                rw [h1]
                simp [intOf]
                omega
            · have hm1 : m = 0 := by omega
              have hd1 : ds = [] := HGO.out.resolve_left hm0
              subst hm1 hd1
              have hE1 : ((ofD []).toList == []) = true := hE
              obtain rfl : q = 0 := by have := HM.out.1; simpa using this.symm
              obtain rfl : d = 0 := by have := HM.out.2; simpa using this.symm
              have hex1 : (⟨#[48, 49, 50, 51, 52, 53, 54, 55, 56, 57, 65, 66, 67, 68, 69, 70]⟩ : ByteArray).extract 0 1 = ⟨#[dc 0]⟩ := hex
              clear hE hm0 hex e1 e2 y1 y2 y3 y4
              go_wp2_with fail
              go_roundw
              case rel =>
                have hm := HM.out
                have hs := val_step HV.out
                rw [hm.1, hm.2] at hs
                exact ⟨[0], 0, rfl, rfl, List.forall_mem_cons.2 ⟨HD1.out, HDS.out⟩, by simp, hs, trivial⟩
              case measure =>
                have hq := HQ.out
                have h1 := isNone_cons 0 []
                have h2 : isNone (.string (ofD [])) = 1 := rfl
                show (intOf (.int .u64 0)).toNat + isNone (.string (ofD (0 :: []))) < (intOf (.int .u64 (0 : Nat))).toNat + isNone (.string (ofD []))
                rw [h1, h2]
                simp [intOf]
          · have hm0 : m = 0 := by omega
            have hne : ds ≠ [] := fun h => hgo (.inr h)
            subst hm0
            have hE1 : ((ofD ds).toList == []) = false := by
              rw [hE]
              cases ds with
              | nil => exact absurd rfl hne
              | cons _ _ => rfl
            have hval : val 2 ds = 9223372036854775808 := by have := HV.out; rw [Nat.zero_mul, Nat.zero_add] at this; exact this
            have hc1 : (⟨#[50, 35]⟩ : ByteArray) ++ ⟨#[48, 48]⟩ = ⟨#[50, 35, 48, 48]⟩ := by kernel_rfl
            have hc2 : (⟨#[50, 35, 48, 48]⟩ : ByteArray) ++ ofD ds = ⟨(numText [50, 35] ds).toArray⟩ := numText_cat [50, 35] ds
            have hsz1 : ¬ 9223372036854775807 < 4 + (ofD ds).size := by rw [ofD_size]; have := HL.out; omega
            have hlx := lex_digits (b := 2) (h := 2) (hd := [50, 35]) (by decide) HDS.out HL.out
            have hts : (⟨(numText [50, 35] ds).toArray⟩ : ByteArray).size ≤ 20000 := by
              have := HL.out
              rw [numText_size]
              simp
              omega
            have LX := Lib.hid fun W (hMW : MaxL W) => lex_any ⟨(numText [50, 35] ds).toArray⟩ hts W hMW
            unfold GotL at LX
            rw [hval, if_pos (by decide)] at hlx
            rw [tx_list, hlx] at LX
            simp only at LX
            generalize (⟨(numText [50, 35] ds).toArray⟩ : ByteArray) = tx at *
            rw [show (tC (atP (plc []))).toArray = #[.int .i64 0, .string ⟨#[]⟩, .int .i64 0, .int .i64 1, .int .i64 1] from rfl] at LX
            clear hlx hts hval hne hgo hE
            go_wp2_with (go_at_call 8; ((with_reducible refine (LX.out _ (MX.out.below HB4.out)).mono ?_); rintro e w5 ⟨A, n', c, rfl, hr, hb⟩; have B5 := Lib.hid (HB4.out.trans (hb.mono HB4.out.size)); clear hr hb))
            go_ret
            exact ⟨rfl, B5.out.trans ((Below.refl _ _).alloc B5.out.size _)⟩
    · cases more
      · have _ := hn2
        go_enter Try.func6, Try.ntmps6
        go_upto_region 12 with (go_at_call 7; ((with_reducible refine (HK.out).mono ?_); rintro e w2 ⟨rfl, hb⟩; have HB := Lib.hid hb; clear hb HK))
        obtain ⟨w4, hw4, hb4⟩ : ∃ W, W = (w2.alloc (.cells #[.int .u64 10, .int .u64 2, .int .u64 8, .int .u64 16] 36)).alloc (.cells #[.string ⟨#[]⟩, .string ⟨#[50, 35]⟩, .string ⟨#[56, 35]⟩, .string ⟨#[49, 54, 35]⟩] 9) ∧ Below w2.heap.size w2 W := ⟨_, rfl, ((Below.refl _ _).alloc (Nat.le_refl _) _).alloc (by simp) _⟩
        rw [← hw4]
        have HB4 := Lib.hid (HB.out.trans (hb4.mono HB.out.size))
        clear hw4 hb4 HB
        go_loopw [10, 11] (fun s10 s11 wr => ∃ (ds : List Nat) (m : Nat), s10 = .string (ofD ds) ∧ s11 = .int .u64 m ∧ (∀ d ∈ ds, d < 8) ∧ ds.length ≤ 64 ∧ m * 8 ^ ds.length + val 8 ds = n ∧ wr = w4) (fun s10 s11 _ => (intOf s11).toNat + isNone s10)
        case atStart => exact ⟨[], n, rfl, rfl, (fun d h => by cases h), by simp, by simp [val], rfl⟩
        case round =>
          obtain ⟨ds, m, rfl, rfl, hds, hlen, hval, rfl⟩ := hrel
          have hE := HN.out ds
          have HDS := Lib.hid hds
          have HL := Lib.hid hlen
          have HV := Lib.hid hval
          clear hds hlen hval
          by_cases hgo : 0 < m ∨ ds = []
          · obtain ⟨d, hd⟩ : ∃ d, m % 8 = d := ⟨_, rfl⟩
            obtain ⟨q, hq⟩ : ∃ q, m / 8 = q := ⟨_, rfl⟩
            have hd1 : d < 8 := by omega
            have e1 : (m : Int) % 8 = d := by omega
            have e2 : (m : Int) / 8 = q := by omega
            have hex := HD.out d (by omega)
            have hcc := HC.out d ds
            have HQ := Lib.hid (show q < m ∨ (q = 0 ∧ m = 0) by omega)
            have HM := Lib.hid (show m / 8 = q ∧ m % 8 = d from ⟨hq, hd⟩)
            have wd : IntKind.u64.wrap ((d : Int) + 1) = d + 1 := by rw [IntKind.wrap_u64]; omega
            have y1 : (0 : Int) ≤ d := by omega
            have y2 : (d : Int) ≤ d + 1 := by omega
            have y3 : (d : Int) + 1 ≤ 16 := by omega
            have y4 : ((d : Int) + 1).toNat = d + 1 := by omega
            have HD1 := Lib.hid hd1
            have HGO := Lib.hid hgo
            clear hd hq hd1 hgo
            have hmle := m_le (by omega) HV.out
            have w6 : IntKind.u64.wrap (q : Int) = q := by rw [IntKind.wrap_u64]; have := HQ.out; omega
            have hsz : ¬ 9223372036854775807 < 1 + (ofD ds).size := by rw [ofD_size]; have := HL.out; omega
            by_cases hm0 : 0 < m
            · have hmz : (0 : Int) < m := by omega
              have HSM := Lib.hid (small (by omega) hm0 HV.out (by omega))
              clear hE
              go_wp2_with fail
              go_roundw
              case rel =>
                have hm := HM.out
                have hs := val_step HV.out
                rw [hm.1, hm.2] at hs
                exact ⟨d :: ds, q, rfl, rfl, List.forall_mem_cons.2 ⟨HD1.out, HDS.out⟩, by have := HSM.out; simp; omega, hs, trivial⟩
              case measure =>
                have hq := HQ.out
                have h1 := isNone_cons d ds
                show (intOf (.int .u64 q)).toNat + isNone (.string (ofD (d :: ds))) < (intOf (.int .u64 m)).toNat + isNone (.string (ofD ds))
                rw [h1]
                simp [intOf]
                omega
            · have hm1 : m = 0 := by omega
              have hd1 : ds = [] := HGO.out.resolve_left hm0
              subst hm1 hd1
              have hE1 : ((ofD []).toList == []) = true := hE
              obtain rfl : q = 0 := by have := HM.out.1; simpa using this.symm
              obtain rfl : d = 0 := by have := HM.out.2; simpa using this.symm
              have hex1 : (⟨#[48, 49, 50, 51, 52, 53, 54, 55, 56, 57, 65, 66, 67, 68, 69, 70]⟩ : ByteArray).extract 0 1 = ⟨#[dc 0]⟩ := hex
              clear hE hm0 hex e1 e2 y1 y2 y3 y4
              go_wp2_with fail
              go_roundw
              case rel =>
                have hm := HM.out
                have hs := val_step HV.out
                rw [hm.1, hm.2] at hs
                exact ⟨[0], 0, rfl, rfl, List.forall_mem_cons.2 ⟨HD1.out, HDS.out⟩, by simp, hs, trivial⟩
              case measure =>
                have hq := HQ.out
                have h1 := isNone_cons 0 []
                have h2 : isNone (.string (ofD [])) = 1 := rfl
                show (intOf (.int .u64 0)).toNat + isNone (.string (ofD (0 :: []))) < (intOf (.int .u64 (0 : Nat))).toNat + isNone (.string (ofD []))
                rw [h1, h2]
                simp [intOf]
          · have hm0 : m = 0 := by omega
            have hne : ds ≠ [] := fun h => hgo (.inr h)
            subst hm0
            have hE1 : ((ofD ds).toList == []) = false := by
              rw [hE]
              cases ds with
              | nil => exact absurd rfl hne
              | cons _ _ => rfl
            have hval : val 8 ds = n := by have := HV.out; rw [Nat.zero_mul, Nat.zero_add] at this; exact this
            have hc1 : (⟨#[56, 35]⟩ : ByteArray) ++ ⟨#[48, 48]⟩ = ⟨#[56, 35, 48, 48]⟩ := by kernel_rfl
            have hc2 : (⟨#[56, 35, 48, 48]⟩ : ByteArray) ++ ofD ds = ⟨(numText [56, 35] ds).toArray⟩ := numText_cat [56, 35] ds
            have hsz1 : ¬ 9223372036854775807 < 4 + (ofD ds).size := by rw [ofD_size]; have := HL.out; omega
            have hlx := lex_digits (b := 8) (h := 2) (hd := [56, 35]) (by decide) HDS.out HL.out
            have hts : (⟨(numText [56, 35] ds).toArray⟩ : ByteArray).size ≤ 20000 := by
              have := HL.out
              rw [numText_size]
              simp
              omega
            have LX := Lib.hid fun W (hMW : MaxL W) => lex_any ⟨(numText [56, 35] ds).toArray⟩ hts W hMW
            unfold GotL at LX
            rw [hval, if_neg (by omega)] at hlx
            rw [tx_list, hlx] at LX
            simp only at LX
            generalize (⟨(numText [56, 35] ds).toArray⟩ : ByteArray) = tx at *
            rw [show (tC zeroT).toArray = #[.int .i64 0, .string ⟨#[]⟩, .int .i64 0, .int .i64 0, .int .i64 0] from rfl] at LX
            clear hlx hts hval hne hgo hE
            go_wp2_with (go_at_call 8; ((with_reducible refine (LX.out _ (MX.out.below HB4.out)).mono ?_); rintro e w5 ⟨A, n', c, rfl, hr, hb⟩; obtain rfl : 2 = n' := hr.1; (have hcap : 2 ≤ c := hr.2.1); (obtain ⟨bk, off, rfl, hbw, hc⟩ := hr.2.2.2.2 (by omega)); (have q1 := hc 0 _ rfl 0 _ rfl); (have q2 := hc 0 _ rfl 2 _ rfl); simp only [Nat.zero_mul, Nat.add_zero] at q1 q2; have B5 := Lib.hid (HB4.out.trans (hb.mono HB4.out.size)); clear hr hb hc))
            go_ret
            exact ⟨rfl, B5.out.trans ((Below.refl _ _).alloc B5.out.size _)⟩
      · have _ := hn2
        go_enter Try.func6, Try.ntmps6
        go_upto_region 12 with (go_at_call 7; ((with_reducible refine (HK.out).mono ?_); rintro e w2 ⟨rfl, hb⟩; have HB := Lib.hid hb; clear hb HK))
        obtain ⟨w4, hw4, hb4⟩ : ∃ W, W = (w2.alloc (.cells #[.int .u64 10, .int .u64 2, .int .u64 8, .int .u64 16] 36)).alloc (.cells #[.string ⟨#[]⟩, .string ⟨#[50, 35]⟩, .string ⟨#[56, 35]⟩, .string ⟨#[49, 54, 35]⟩] 9) ∧ Below w2.heap.size w2 W := ⟨_, rfl, ((Below.refl _ _).alloc (Nat.le_refl _) _).alloc (by simp) _⟩
        rw [← hw4]
        have HB4 := Lib.hid (HB.out.trans (hb4.mono HB.out.size))
        clear hw4 hb4 HB
        go_loopw [10, 11] (fun s10 s11 wr => ∃ (ds : List Nat) (m : Nat), s10 = .string (ofD ds) ∧ s11 = .int .u64 m ∧ (∀ d ∈ ds, d < 8) ∧ ds.length ≤ 64 ∧ m * 8 ^ ds.length + val 8 ds = 9223372036854775808 ∧ wr = w4) (fun s10 s11 _ => (intOf s11).toNat + isNone s10)
        case atStart => exact ⟨[], 9223372036854775808, rfl, rfl, (fun d h => by cases h), by simp, by simp [val], rfl⟩
        case round =>
          obtain ⟨ds, m, rfl, rfl, hds, hlen, hval, rfl⟩ := hrel
          have hE := HN.out ds
          have HDS := Lib.hid hds
          have HL := Lib.hid hlen
          have HV := Lib.hid hval
          clear hds hlen hval
          by_cases hgo : 0 < m ∨ ds = []
          · obtain ⟨d, hd⟩ : ∃ d, m % 8 = d := ⟨_, rfl⟩
            obtain ⟨q, hq⟩ : ∃ q, m / 8 = q := ⟨_, rfl⟩
            have hd1 : d < 8 := by omega
            have e1 : (m : Int) % 8 = d := by omega
            have e2 : (m : Int) / 8 = q := by omega
            have hex := HD.out d (by omega)
            have hcc := HC.out d ds
            have HQ := Lib.hid (show q < m ∨ (q = 0 ∧ m = 0) by omega)
            have HM := Lib.hid (show m / 8 = q ∧ m % 8 = d from ⟨hq, hd⟩)
            have wd : IntKind.u64.wrap ((d : Int) + 1) = d + 1 := by rw [IntKind.wrap_u64]; omega
            have y1 : (0 : Int) ≤ d := by omega
            have y2 : (d : Int) ≤ d + 1 := by omega
            have y3 : (d : Int) + 1 ≤ 16 := by omega
            have y4 : ((d : Int) + 1).toNat = d + 1 := by omega
            have HD1 := Lib.hid hd1
            have HGO := Lib.hid hgo
            clear hd hq hd1 hgo
            have hmle := m_le (by omega) HV.out
            have w6 : IntKind.u64.wrap (q : Int) = q := by rw [IntKind.wrap_u64]; have := HQ.out; omega
            have hsz : ¬ 9223372036854775807 < 1 + (ofD ds).size := by rw [ofD_size]; have := HL.out; omega
            by_cases hm0 : 0 < m
            · have hmz : (0 : Int) < m := by omega
              have HSM := Lib.hid (small (by omega) hm0 HV.out (by omega))
              clear hE
              go_wp2_with fail
              go_roundw
              case rel =>
                have hm := HM.out
                have hs := val_step HV.out
                rw [hm.1, hm.2] at hs
                exact ⟨d :: ds, q, rfl, rfl, List.forall_mem_cons.2 ⟨HD1.out, HDS.out⟩, by have := HSM.out; simp; omega, hs, trivial⟩
              case measure =>
                have hq := HQ.out
                have h1 := isNone_cons d ds
                show (intOf (.int .u64 q)).toNat + isNone (.string (ofD (d :: ds))) < (intOf (.int .u64 m)).toNat + isNone (.string (ofD ds))
                rw [h1]
                simp [intOf]
                omega
            · have hm1 : m = 0 := by omega
              have hd1 : ds = [] := HGO.out.resolve_left hm0
              subst hm1 hd1
              have hE1 : ((ofD []).toList == []) = true := hE
              obtain rfl : q = 0 := by have := HM.out.1; simpa using this.symm
              obtain rfl : d = 0 := by have := HM.out.2; simpa using this.symm
              have hex1 : (⟨#[48, 49, 50, 51, 52, 53, 54, 55, 56, 57, 65, 66, 67, 68, 69, 70]⟩ : ByteArray).extract 0 1 = ⟨#[dc 0]⟩ := hex
              clear hE hm0 hex e1 e2 y1 y2 y3 y4
              go_wp2_with fail
              go_roundw
              case rel =>
                have hm := HM.out
                have hs := val_step HV.out
                rw [hm.1, hm.2] at hs
                exact ⟨[0], 0, rfl, rfl, List.forall_mem_cons.2 ⟨HD1.out, HDS.out⟩, by simp, hs, trivial⟩
              case measure =>
                have hq := HQ.out
                have h1 := isNone_cons 0 []
                have h2 : isNone (.string (ofD [])) = 1 := rfl
                show (intOf (.int .u64 0)).toNat + isNone (.string (ofD (0 :: []))) < (intOf (.int .u64 (0 : Nat))).toNat + isNone (.string (ofD []))
                rw [h1, h2]
                simp [intOf]
          · have hm0 : m = 0 := by omega
            have hne : ds ≠ [] := fun h => hgo (.inr h)
            subst hm0
            have hE1 : ((ofD ds).toList == []) = false := by
              rw [hE]
              cases ds with
              | nil => exact absurd rfl hne
              | cons _ _ => rfl
            have hval : val 8 ds = 9223372036854775808 := by have := HV.out; rw [Nat.zero_mul, Nat.zero_add] at this; exact this
            have hc1 : (⟨#[56, 35]⟩ : ByteArray) ++ ⟨#[48, 48]⟩ = ⟨#[56, 35, 48, 48]⟩ := by kernel_rfl
            have hc2 : (⟨#[56, 35, 48, 48]⟩ : ByteArray) ++ ofD ds = ⟨(numText [56, 35] ds).toArray⟩ := numText_cat [56, 35] ds
            have hsz1 : ¬ 9223372036854775807 < 4 + (ofD ds).size := by rw [ofD_size]; have := HL.out; omega
            have hlx := lex_digits (b := 8) (h := 2) (hd := [56, 35]) (by decide) HDS.out HL.out
            have hts : (⟨(numText [56, 35] ds).toArray⟩ : ByteArray).size ≤ 20000 := by
              have := HL.out
              rw [numText_size]
              simp
              omega
            have LX := Lib.hid fun W (hMW : MaxL W) => lex_any ⟨(numText [56, 35] ds).toArray⟩ hts W hMW
            unfold GotL at LX
            rw [hval, if_pos (by decide)] at hlx
            rw [tx_list, hlx] at LX
            simp only at LX
            generalize (⟨(numText [56, 35] ds).toArray⟩ : ByteArray) = tx at *
            rw [show (tC (atP (plc []))).toArray = #[.int .i64 0, .string ⟨#[]⟩, .int .i64 0, .int .i64 1, .int .i64 1] from rfl] at LX
            clear hlx hts hval hne hgo hE
            go_wp2_with (go_at_call 8; ((with_reducible refine (LX.out _ (MX.out.below HB4.out)).mono ?_); rintro e w5 ⟨A, n', c, rfl, hr, hb⟩; have B5 := Lib.hid (HB4.out.trans (hb.mono HB4.out.size)); clear hr hb))
            go_ret
            exact ⟨rfl, B5.out.trans ((Below.refl _ _).alloc B5.out.size _)⟩
    · cases more
      · have _ := hn2
        go_enter Try.func6, Try.ntmps6
        go_upto_region 12 with (go_at_call 7; ((with_reducible refine (HK.out).mono ?_); rintro e w2 ⟨rfl, hb⟩; have HB := Lib.hid hb; clear hb HK))
        obtain ⟨w4, hw4, hb4⟩ : ∃ W, W = (w2.alloc (.cells #[.int .u64 10, .int .u64 2, .int .u64 8, .int .u64 16] 36)).alloc (.cells #[.string ⟨#[]⟩, .string ⟨#[50, 35]⟩, .string ⟨#[56, 35]⟩, .string ⟨#[49, 54, 35]⟩] 9) ∧ Below w2.heap.size w2 W := ⟨_, rfl, ((Below.refl _ _).alloc (Nat.le_refl _) _).alloc (by simp) _⟩
        rw [← hw4]
        have HB4 := Lib.hid (HB.out.trans (hb4.mono HB.out.size))
        clear hw4 hb4 HB
        go_loopw [10, 11] (fun s10 s11 wr => ∃ (ds : List Nat) (m : Nat), s10 = .string (ofD ds) ∧ s11 = .int .u64 m ∧ (∀ d ∈ ds, d < 16) ∧ ds.length ≤ 64 ∧ m * 16 ^ ds.length + val 16 ds = n ∧ wr = w4) (fun s10 s11 _ => (intOf s11).toNat + isNone s10)
        case atStart => exact ⟨[], n, rfl, rfl, (fun d h => by cases h), by simp, by simp [val], rfl⟩
        case round =>
          obtain ⟨ds, m, rfl, rfl, hds, hlen, hval, rfl⟩ := hrel
          have hE := HN.out ds
          have HDS := Lib.hid hds
          have HL := Lib.hid hlen
          have HV := Lib.hid hval
          clear hds hlen hval
          by_cases hgo : 0 < m ∨ ds = []
          · obtain ⟨d, hd⟩ : ∃ d, m % 16 = d := ⟨_, rfl⟩
            obtain ⟨q, hq⟩ : ∃ q, m / 16 = q := ⟨_, rfl⟩
            have hd1 : d < 16 := by omega
            have e1 : (m : Int) % 16 = d := by omega
            have e2 : (m : Int) / 16 = q := by omega
            have hex := HD.out d (by omega)
            have hcc := HC.out d ds
            have HQ := Lib.hid (show q < m ∨ (q = 0 ∧ m = 0) by omega)
            have HM := Lib.hid (show m / 16 = q ∧ m % 16 = d from ⟨hq, hd⟩)
            have wd : IntKind.u64.wrap ((d : Int) + 1) = d + 1 := by rw [IntKind.wrap_u64]; omega
            have y1 : (0 : Int) ≤ d := by omega
            have y2 : (d : Int) ≤ d + 1 := by omega
            have y3 : (d : Int) + 1 ≤ 16 := by omega
            have y4 : ((d : Int) + 1).toNat = d + 1 := by omega
            have HD1 := Lib.hid hd1
            have HGO := Lib.hid hgo
            clear hd hq hd1 hgo
            have hmle := m_le (by omega) HV.out
            have w6 : IntKind.u64.wrap (q : Int) = q := by rw [IntKind.wrap_u64]; have := HQ.out; omega
            have hsz : ¬ 9223372036854775807 < 1 + (ofD ds).size := by rw [ofD_size]; have := HL.out; omega
            by_cases hm0 : 0 < m
            · have hmz : (0 : Int) < m := by omega
              have HSM := Lib.hid (small (by omega) hm0 HV.out (by omega))
              clear hE
              go_wp2_with fail
              go_roundw
              case rel =>
                have hm := HM.out
                have hs := val_step HV.out
                rw [hm.1, hm.2] at hs
                exact ⟨d :: ds, q, rfl, rfl, List.forall_mem_cons.2 ⟨HD1.out, HDS.out⟩, by have := HSM.out; simp; omega, hs, trivial⟩
              case measure =>
                have hq := HQ.out
                have h1 := isNone_cons d ds
                show (intOf (.int .u64 q)).toNat + isNone (.string (ofD (d :: ds))) < (intOf (.int .u64 m)).toNat + isNone (.string (ofD ds))
                rw [h1]
                simp [intOf]
                omega
            · have hm1 : m = 0 := by omega
              have hd1 : ds = [] := HGO.out.resolve_left hm0
              subst hm1 hd1
              have hE1 : ((ofD []).toList == []) = true := hE
              obtain rfl : q = 0 := by have := HM.out.1; simpa using this.symm
              obtain rfl : d = 0 := by have := HM.out.2; simpa using this.symm
              have hex1 : (⟨#[48, 49, 50, 51, 52, 53, 54, 55, 56, 57, 65, 66, 67, 68, 69, 70]⟩ : ByteArray).extract 0 1 = ⟨#[dc 0]⟩ := hex
              clear hE hm0 hex e1 e2 y1 y2 y3 y4
              go_wp2_with fail
              go_roundw
              case rel =>
                have hm := HM.out
                have hs := val_step HV.out
                rw [hm.1, hm.2] at hs
                exact ⟨[0], 0, rfl, rfl, List.forall_mem_cons.2 ⟨HD1.out, HDS.out⟩, by simp, hs, trivial⟩
              case measure =>
                have hq := HQ.out
                have h1 := isNone_cons 0 []
                have h2 : isNone (.string (ofD [])) = 1 := rfl
                show (intOf (.int .u64 0)).toNat + isNone (.string (ofD (0 :: []))) < (intOf (.int .u64 (0 : Nat))).toNat + isNone (.string (ofD []))
                rw [h1, h2]
                simp [intOf]
          · have hm0 : m = 0 := by omega
            have hne : ds ≠ [] := fun h => hgo (.inr h)
            subst hm0
            have hE1 : ((ofD ds).toList == []) = false := by
              rw [hE]
              cases ds with
              | nil => exact absurd rfl hne
              | cons _ _ => rfl
            have hval : val 16 ds = n := by have := HV.out; rw [Nat.zero_mul, Nat.zero_add] at this; exact this
            have hc1 : (⟨#[49, 54, 35]⟩ : ByteArray) ++ ⟨#[48, 48]⟩ = ⟨#[49, 54, 35, 48, 48]⟩ := by kernel_rfl
            have hc2 : (⟨#[49, 54, 35, 48, 48]⟩ : ByteArray) ++ ofD ds = ⟨(numText [49, 54, 35] ds).toArray⟩ := numText_cat [49, 54, 35] ds
            have hsz1 : ¬ 9223372036854775807 < 5 + (ofD ds).size := by rw [ofD_size]; have := HL.out; omega
            have hlx := lex_digits (b := 16) (h := 3) (hd := [49, 54, 35]) (by decide) HDS.out HL.out
            have hts : (⟨(numText [49, 54, 35] ds).toArray⟩ : ByteArray).size ≤ 20000 := by
              have := HL.out
              rw [numText_size]
              simp
              omega
            have LX := Lib.hid fun W (hMW : MaxL W) => lex_any ⟨(numText [49, 54, 35] ds).toArray⟩ hts W hMW
            unfold GotL at LX
            rw [hval, if_neg (by omega)] at hlx
            rw [tx_list, hlx] at LX
            simp only at LX
            generalize (⟨(numText [49, 54, 35] ds).toArray⟩ : ByteArray) = tx at *
            rw [show (tC zeroT).toArray = #[.int .i64 0, .string ⟨#[]⟩, .int .i64 0, .int .i64 0, .int .i64 0] from rfl] at LX
            clear hlx hts hval hne hgo hE
            go_wp2_with (go_at_call 8; ((with_reducible refine (LX.out _ (MX.out.below HB4.out)).mono ?_); rintro e w5 ⟨A, n', c, rfl, hr, hb⟩; obtain rfl : 2 = n' := hr.1; (have hcap : 2 ≤ c := hr.2.1); (obtain ⟨bk, off, rfl, hbw, hc⟩ := hr.2.2.2.2 (by omega)); (have q1 := hc 0 _ rfl 0 _ rfl); (have q2 := hc 0 _ rfl 2 _ rfl); simp only [Nat.zero_mul, Nat.add_zero] at q1 q2; have B5 := Lib.hid (HB4.out.trans (hb.mono HB4.out.size)); clear hr hb hc))
            go_ret
            exact ⟨rfl, B5.out.trans ((Below.refl _ _).alloc B5.out.size _)⟩
      · have _ := hn2
        go_enter Try.func6, Try.ntmps6
        go_upto_region 12 with (go_at_call 7; ((with_reducible refine (HK.out).mono ?_); rintro e w2 ⟨rfl, hb⟩; have HB := Lib.hid hb; clear hb HK))
        obtain ⟨w4, hw4, hb4⟩ : ∃ W, W = (w2.alloc (.cells #[.int .u64 10, .int .u64 2, .int .u64 8, .int .u64 16] 36)).alloc (.cells #[.string ⟨#[]⟩, .string ⟨#[50, 35]⟩, .string ⟨#[56, 35]⟩, .string ⟨#[49, 54, 35]⟩] 9) ∧ Below w2.heap.size w2 W := ⟨_, rfl, ((Below.refl _ _).alloc (Nat.le_refl _) _).alloc (by simp) _⟩
        rw [← hw4]
        have HB4 := Lib.hid (HB.out.trans (hb4.mono HB.out.size))
        clear hw4 hb4 HB
        go_loopw [10, 11] (fun s10 s11 wr => ∃ (ds : List Nat) (m : Nat), s10 = .string (ofD ds) ∧ s11 = .int .u64 m ∧ (∀ d ∈ ds, d < 16) ∧ ds.length ≤ 64 ∧ m * 16 ^ ds.length + val 16 ds = 9223372036854775808 ∧ wr = w4) (fun s10 s11 _ => (intOf s11).toNat + isNone s10)
        case atStart => exact ⟨[], 9223372036854775808, rfl, rfl, (fun d h => by cases h), by simp, by simp [val], rfl⟩
        case round =>
          obtain ⟨ds, m, rfl, rfl, hds, hlen, hval, rfl⟩ := hrel
          have hE := HN.out ds
          have HDS := Lib.hid hds
          have HL := Lib.hid hlen
          have HV := Lib.hid hval
          clear hds hlen hval
          by_cases hgo : 0 < m ∨ ds = []
          · obtain ⟨d, hd⟩ : ∃ d, m % 16 = d := ⟨_, rfl⟩
            obtain ⟨q, hq⟩ : ∃ q, m / 16 = q := ⟨_, rfl⟩
            have hd1 : d < 16 := by omega
            have e1 : (m : Int) % 16 = d := by omega
            have e2 : (m : Int) / 16 = q := by omega
            have hex := HD.out d (by omega)
            have hcc := HC.out d ds
            have HQ := Lib.hid (show q < m ∨ (q = 0 ∧ m = 0) by omega)
            have HM := Lib.hid (show m / 16 = q ∧ m % 16 = d from ⟨hq, hd⟩)
            have wd : IntKind.u64.wrap ((d : Int) + 1) = d + 1 := by rw [IntKind.wrap_u64]; omega
            have y1 : (0 : Int) ≤ d := by omega
            have y2 : (d : Int) ≤ d + 1 := by omega
            have y3 : (d : Int) + 1 ≤ 16 := by omega
            have y4 : ((d : Int) + 1).toNat = d + 1 := by omega
            have HD1 := Lib.hid hd1
            have HGO := Lib.hid hgo
            clear hd hq hd1 hgo
            have hmle := m_le (by omega) HV.out
            have w6 : IntKind.u64.wrap (q : Int) = q := by rw [IntKind.wrap_u64]; have := HQ.out; omega
            have hsz : ¬ 9223372036854775807 < 1 + (ofD ds).size := by rw [ofD_size]; have := HL.out; omega
            by_cases hm0 : 0 < m
            · have hmz : (0 : Int) < m := by omega
              have HSM := Lib.hid (small (by omega) hm0 HV.out (by omega))
              clear hE
              go_wp2_with fail
              go_roundw
              case rel =>
                have hm := HM.out
                have hs := val_step HV.out
                rw [hm.1, hm.2] at hs
                exact ⟨d :: ds, q, rfl, rfl, List.forall_mem_cons.2 ⟨HD1.out, HDS.out⟩, by have := HSM.out; simp; omega, hs, trivial⟩
              case measure =>
                have hq := HQ.out
                have h1 := isNone_cons d ds
                show (intOf (.int .u64 q)).toNat + isNone (.string (ofD (d :: ds))) < (intOf (.int .u64 m)).toNat + isNone (.string (ofD ds))
                rw [h1]
                simp [intOf]
                omega
            · have hm1 : m = 0 := by omega
              have hd1 : ds = [] := HGO.out.resolve_left hm0
              subst hm1 hd1
              have hE1 : ((ofD []).toList == []) = true := hE
              obtain rfl : q = 0 := by have := HM.out.1; simpa using this.symm
              obtain rfl : d = 0 := by have := HM.out.2; simpa using this.symm
              have hex1 : (⟨#[48, 49, 50, 51, 52, 53, 54, 55, 56, 57, 65, 66, 67, 68, 69, 70]⟩ : ByteArray).extract 0 1 = ⟨#[dc 0]⟩ := hex
              clear hE hm0 hex e1 e2 y1 y2 y3 y4
              go_wp2_with fail
              go_roundw
              case rel =>
                have hm := HM.out
                have hs := val_step HV.out
                rw [hm.1, hm.2] at hs
                exact ⟨[0], 0, rfl, rfl, List.forall_mem_cons.2 ⟨HD1.out, HDS.out⟩, by simp, hs, trivial⟩
              case measure =>
                have hq := HQ.out
                have h1 := isNone_cons 0 []
                have h2 : isNone (.string (ofD [])) = 1 := rfl
                show (intOf (.int .u64 0)).toNat + isNone (.string (ofD (0 :: []))) < (intOf (.int .u64 (0 : Nat))).toNat + isNone (.string (ofD []))
                rw [h1, h2]
                simp [intOf]
          · have hm0 : m = 0 := by omega
            have hne : ds ≠ [] := fun h => hgo (.inr h)
            subst hm0
            have hE1 : ((ofD ds).toList == []) = false := by
              rw [hE]
              cases ds with
              | nil => exact absurd rfl hne
              | cons _ _ => rfl
            have hval : val 16 ds = 9223372036854775808 := by have := HV.out; rw [Nat.zero_mul, Nat.zero_add] at this; exact this
            have hc1 : (⟨#[49, 54, 35]⟩ : ByteArray) ++ ⟨#[48, 48]⟩ = ⟨#[49, 54, 35, 48, 48]⟩ := by kernel_rfl
            have hc2 : (⟨#[49, 54, 35, 48, 48]⟩ : ByteArray) ++ ofD ds = ⟨(numText [49, 54, 35] ds).toArray⟩ := numText_cat [49, 54, 35] ds
            have hsz1 : ¬ 9223372036854775807 < 5 + (ofD ds).size := by rw [ofD_size]; have := HL.out; omega
            have hlx := lex_digits (b := 16) (h := 3) (hd := [49, 54, 35]) (by decide) HDS.out HL.out
            have hts : (⟨(numText [49, 54, 35] ds).toArray⟩ : ByteArray).size ≤ 20000 := by
              have := HL.out
              rw [numText_size]
              simp
              omega
            have LX := Lib.hid fun W (hMW : MaxL W) => lex_any ⟨(numText [49, 54, 35] ds).toArray⟩ hts W hMW
            unfold GotL at LX
            rw [hval, if_pos (by decide)] at hlx
            rw [tx_list, hlx] at LX
            simp only at LX
            generalize (⟨(numText [49, 54, 35] ds).toArray⟩ : ByteArray) = tx at *
            rw [show (tC (atP (plc []))).toArray = #[.int .i64 0, .string ⟨#[]⟩, .int .i64 0, .int .i64 1, .int .i64 1] from rfl] at LX
            clear hlx hts hval hne hgo hE
            go_wp2_with (go_at_call 8; ((with_reducible refine (LX.out _ (MX.out.below HB4.out)).mono ?_); rintro e w5 ⟨A, n', c, rfl, hr, hb⟩; have B5 := Lib.hid (HB4.out.trans (hb.mono HB4.out.size)); clear hr hb))
            go_ret
            exact ⟨rfl, B5.out.trans ((Below.refl _ _).alloc B5.out.size _)⟩
end Go.Proofs.Ythdkkdgjcfjinaa.tokNumbers
