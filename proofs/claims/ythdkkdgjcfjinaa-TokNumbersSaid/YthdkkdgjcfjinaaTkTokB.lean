/- What the landed tok's signLength, baseOf, run, value and told give, in the document's words. Condition: a text has at most 20000 bytes. -/
import Derived.Test.YthdkkdgjcfjinaaTkTokA
import Derived.Test.YthdkkdgjcfjinaaQDiv
namespace Go.Proofs.Ythdkkdgjcfjinaa.tk
open Go.ChangeShapes Go.WideShapes Go.ChangeAt Go.RowKit Go.Proofs.Ythdkkdgjcfjinaa.k Go.Proofs.Ythdkkdgjcfjinaa.rr
set_option linter.unusedVariables false

theorem dr_zero (r : ByteArray) : dr r 0 = r.data.toList := rfl
theorem two_ext {r : ByteArray} (h : 1 < r.size) (a b : UInt8) : ((r.extract 0 2).toList == [a, b]) = two r.data.toList a b := by
  have h0 : 0 < r.size := by omega
  have e : dr r 0 = r[0] :: r[1] :: dr r 2 := by rw [dr_at h0, dr_at h]
  rw [extract_dr, str_beq]
  show ((dr r 0).take 2 == [a, b]) = two (dr r 0) a b
  rw [e, two_cons]
  simp
set_option maxRecDepth 100000 in
set_option maxHeartbeats 4000000 in
theorem signLength_any (r : ByteArray) (hs : r.size ≤ 20000) (h0 : 0 < r.size) (w : World) : Calls Try.prog 34 #[.string r] w fun e w' => e = .returned (.int .i64 (signLen r.data.toList)) ∧ w = w' := by
  obtain ⟨x, hx⟩ : ∃ x : UInt8, r[0] = x := ⟨_, rfl⟩
  have hd := dr_at h0
  rw [hx, dr_zero] at hd
  have hsing : singles.contains x = (x == 43 || (x == 45 || (x == 42 || (x == 47 || (x == 40 || (x == 41 || (x == 91 || (x == 93 || (x == 46 || (x == 44 || (x == 59 || (x == 58 || (x == 60 || (x == 62 || (x == 61))))))))))))))) := by
    simp only [singles, List.contains_cons, List.contains_nil, Bool.or_false]
  have hS : signLen r.data.toList = if (two r.data.toList 58 61 || (two r.data.toList 60 61 || (two r.data.toList 62 61 || (two r.data.toList 60 62 || (two r.data.toList 46 46))))) = true then 2 else if singles.contains x = true then 1 else 0 := by
    unfold signLen
    rw [hd]
  rw [hsing] at hS
  clear hsing
  obtain ⟨t0, ht0⟩ : ∃ t, two r.data.toList 58 61 = t := ⟨_, rfl⟩
  obtain ⟨t1, ht1⟩ : ∃ t, two r.data.toList 60 61 = t := ⟨_, rfl⟩
  obtain ⟨t2, ht2⟩ : ∃ t, two r.data.toList 62 61 = t := ⟨_, rfl⟩
  obtain ⟨t3, ht3⟩ : ∃ t, two r.data.toList 60 62 = t := ⟨_, rfl⟩
  obtain ⟨t4, ht4⟩ : ∃ t, two r.data.toList 46 46 = t := ⟨_, rfl⟩
  obtain ⟨s0, hs0⟩ : ∃ s, (x == 43) = s := ⟨_, rfl⟩
  have e0 := eq8n x 43 (by omega)
  rw [show (UInt8.ofNat 43) = 43 from rfl, show ((43 : Nat) : Int) = 43 from rfl, hs0] at e0
  obtain ⟨s1, hs1⟩ : ∃ s, (x == 45) = s := ⟨_, rfl⟩
  have e1 := eq8n x 45 (by omega)
  rw [show (UInt8.ofNat 45) = 45 from rfl, show ((45 : Nat) : Int) = 45 from rfl, hs1] at e1
  obtain ⟨s2, hs2⟩ : ∃ s, (x == 42) = s := ⟨_, rfl⟩
  have e2 := eq8n x 42 (by omega)
  rw [show (UInt8.ofNat 42) = 42 from rfl, show ((42 : Nat) : Int) = 42 from rfl, hs2] at e2
  obtain ⟨s3, hs3⟩ : ∃ s, (x == 47) = s := ⟨_, rfl⟩
  have e3 := eq8n x 47 (by omega)
  rw [show (UInt8.ofNat 47) = 47 from rfl, show ((47 : Nat) : Int) = 47 from rfl, hs3] at e3
  obtain ⟨s4, hs4⟩ : ∃ s, (x == 40) = s := ⟨_, rfl⟩
  have e4 := eq8n x 40 (by omega)
  rw [show (UInt8.ofNat 40) = 40 from rfl, show ((40 : Nat) : Int) = 40 from rfl, hs4] at e4
  obtain ⟨s5, hs5⟩ : ∃ s, (x == 41) = s := ⟨_, rfl⟩
  have e5 := eq8n x 41 (by omega)
  rw [show (UInt8.ofNat 41) = 41 from rfl, show ((41 : Nat) : Int) = 41 from rfl, hs5] at e5
  obtain ⟨s6, hs6⟩ : ∃ s, (x == 91) = s := ⟨_, rfl⟩
  have e6 := eq8n x 91 (by omega)
  rw [show (UInt8.ofNat 91) = 91 from rfl, show ((91 : Nat) : Int) = 91 from rfl, hs6] at e6
  obtain ⟨s7, hs7⟩ : ∃ s, (x == 93) = s := ⟨_, rfl⟩
  have e7 := eq8n x 93 (by omega)
  rw [show (UInt8.ofNat 93) = 93 from rfl, show ((93 : Nat) : Int) = 93 from rfl, hs7] at e7
  obtain ⟨s8, hs8⟩ : ∃ s, (x == 46) = s := ⟨_, rfl⟩
  have e8 := eq8n x 46 (by omega)
  rw [show (UInt8.ofNat 46) = 46 from rfl, show ((46 : Nat) : Int) = 46 from rfl, hs8] at e8
  obtain ⟨s9, hs9⟩ : ∃ s, (x == 44) = s := ⟨_, rfl⟩
  have e9 := eq8n x 44 (by omega)
  rw [show (UInt8.ofNat 44) = 44 from rfl, show ((44 : Nat) : Int) = 44 from rfl, hs9] at e9
  obtain ⟨s10, hs10⟩ : ∃ s, (x == 59) = s := ⟨_, rfl⟩
  have e10 := eq8n x 59 (by omega)
  rw [show (UInt8.ofNat 59) = 59 from rfl, show ((59 : Nat) : Int) = 59 from rfl, hs10] at e10
  obtain ⟨s11, hs11⟩ : ∃ s, (x == 58) = s := ⟨_, rfl⟩
  have e11 := eq8n x 58 (by omega)
  rw [show (UInt8.ofNat 58) = 58 from rfl, show ((58 : Nat) : Int) = 58 from rfl, hs11] at e11
  obtain ⟨s12, hs12⟩ : ∃ s, (x == 60) = s := ⟨_, rfl⟩
  have e12 := eq8n x 60 (by omega)
  rw [show (UInt8.ofNat 60) = 60 from rfl, show ((60 : Nat) : Int) = 60 from rfl, hs12] at e12
  obtain ⟨s13, hs13⟩ : ∃ s, (x == 62) = s := ⟨_, rfl⟩
  have e13 := eq8n x 62 (by omega)
  rw [show (UInt8.ofNat 62) = 62 from rfl, show ((62 : Nat) : Int) = 62 from rfl, hs13] at e13
  obtain ⟨s14, hs14⟩ : ∃ s, (x == 61) = s := ⟨_, rfl⟩
  have e14 := eq8n x 61 (by omega)
  rw [show (UInt8.ofNat 61) = 61 from rfl, show ((61 : Nat) : Int) = 61 from rfl, hs14] at e14
  rw [ht0, ht1, ht2, ht3, ht4, hs0, hs1, hs2, hs3, hs4, hs5, hs6, hs7, hs8, hs9, hs10, hs11, hs12, hs13, hs14] at hS
  have HS := Lib.hid hS
  clear hS hs0 hs1 hs2 hs3 hs4 hs5 hs6 hs7 hs8 hs9 hs10 hs11 hs12 hs13 hs14
  have hz : (0 : Int) < r.size := by omega
  by_cases h1 : 1 < r.size
  · have z1 : (1 : Int) < r.size := by omega
    have z2 : (2 : Int) ≤ r.size := by omega
    have f0 := two_ext h1 58 61
    rw [ht0] at f0
    have f1 := two_ext h1 60 61
    rw [ht1] at f1
    have f2 := two_ext h1 62 61
    rw [ht2] at f2
    have f3 := two_ext h1 60 62
    rw [ht3] at f3
    have f4 := two_ext h1 46 46
    rw [ht4] at f4
    obtain ⟨T, hT⟩ : ∃ T, r.extract 0 2 = T := ⟨_, rfl⟩
    rw [hT] at f0 f1 f2 f3 f4
    clear ht0 ht1 ht2 ht3 ht4 hd
    go_enter Try.func34, Try.ntmps34
    go_wp2
    all_goals
      go_ret
      refine ⟨ret_int ?_, rfl⟩
      rw [HS.out]
      clear HS e0 e1 e2 e3 e4 e5 e6 e7 e8 e9 e10 e11 e12 e13 e14 f0 f1 f2 f3 f4
      simp_all
  · have z1 : ¬ (1 : Int) < r.size := by omega
    have hl : r.data.toList = [x] := by rw [hd, dr_end (by omega)]
    rw [hl] at ht0 ht1 ht2 ht3 ht4
    simp only [two] at ht0 ht1 ht2 ht3 ht4
    subst ht0 ht1 ht2 ht3 ht4
    clear hd hl
    go_enter Try.func34, Try.ntmps34
    go_wp2
    all_goals
      go_ret
      refine ⟨ret_int ?_, rfl⟩
      rw [HS.out]
      clear HS e0 e1 e2 e3 e4 e5 e6 e7 e8 e9 e10 e11 e12 e13 e14
      simp_all
theorem prefix2 (l : List UInt8) (a b : UInt8) : Lib.hasPrefix l [a, b] = two l a b := by
  unfold Lib.hasPrefix
  match l with
  | [] => rfl
  | [x] => simp [List.isPrefixOf, two]
  | x :: y :: l => simp only [List.isPrefixOf, two, Bool.and_true]; rw [BEq.comm (a := a), BEq.comm (a := b)]
theorem prefix3 (l : List UInt8) (a b c : UInt8) : Lib.hasPrefix l [a, b, c] = (two l a b && two (l.drop 1) b c) := by
  unfold Lib.hasPrefix
  match l with
  | [] => rfl
  | [x] => simp [List.isPrefixOf, two]
  | [x, y] => simp [List.isPrefixOf, two]
  | x :: y :: z :: l =>
    simp only [List.isPrefixOf, two, Bool.and_true, List.drop_succ_cons, List.drop_zero]
    rw [BEq.comm (a := a), BEq.comm (a := b), BEq.comm (a := c)]
    cases (x == a) <;> cases (y == b) <;> cases (z == c) <;> rfl
theorem baseOf_any (r : ByteArray) (w : World) : Calls Try.prog 40 #[.string r] w fun e w' => e = .returned (.tuple #[.int .i64 (baseOf r.data.toList).1, .int .i64 (baseOf r.data.toList).2]) ∧ w = w' := by
  obtain ⟨t1, h1⟩ : ∃ t, two r.data.toList 50 35 = t := ⟨_, rfl⟩
  obtain ⟨t2, h2⟩ : ∃ t, two r.data.toList 56 35 = t := ⟨_, rfl⟩
  obtain ⟨t3, h3⟩ : ∃ t, (two r.data.toList 49 54 && two (r.data.toList.drop 1) 54 35) = t := ⟨_, rfl⟩
  have P1 : Hid (∀ W, Calls Try.prog 28 #[.string r, .string ⟨#[50, 35]⟩] W fun e w' => e = .returned (.bool t1) ∧ W = w') := Lib.hid fun W => h1 ▸ prefix2 r.data.toList 50 35 ▸ hasPrefix_any r ⟨#[50, 35]⟩ W
  have P2 : Hid (∀ W, Calls Try.prog 28 #[.string r, .string ⟨#[56, 35]⟩] W fun e w' => e = .returned (.bool t2) ∧ W = w') := Lib.hid fun W => h2 ▸ prefix2 r.data.toList 56 35 ▸ hasPrefix_any r ⟨#[56, 35]⟩ W
  have P3 : Hid (∀ W, Calls Try.prog 28 #[.string r, .string ⟨#[49, 54, 35]⟩] W fun e w' => e = .returned (.bool t3) ∧ W = w') := Lib.hid fun W => h3 ▸ prefix3 r.data.toList 49 54 35 ▸ hasPrefix_any r ⟨#[49, 54, 35]⟩ W
  have HB : Hid (baseOf r.data.toList = if t1 = true then (2, 2) else if t2 = true then (8, 2) else if t3 = true then (16, 3) else (10, 0)) := Lib.hid (by unfold baseOf; rw [h1, h2, h3])
  clear h1 h2 h3
  go_enter Try.func40, Try.ntmps40
  go_wp2_with (first | (go_at_call 28; (with_reducible refine (P1.out _).mono ?_); rintro e w1 ⟨rfl, rfl⟩) | (go_at_call 28; (with_reducible refine (P2.out _).mono ?_); rintro e w1 ⟨rfl, rfl⟩) | (go_at_call 28; (with_reducible refine (P3.out _).mono ?_); rintro e w1 ⟨rfl, rfl⟩))
  all_goals
    go_ret2
    rw [HB.out]
    clear HB P1 P2 P3
    simp_all
/-- how many bytes at the beginning are such ones -/
def runLen (p : UInt8 → Bool) : List UInt8 → Nat
  | [] => 0
  | c :: l => if p c = true then runLen p l + 1 else 0
theorem runLen_le (p : UInt8 → Bool) : ∀ l : List UInt8, runLen p l ≤ l.length
  | [] => Nat.le_refl _
  | c :: l => by
    have := runLen_le p l
    rw [runLen, List.length_cons]
    split <;> omega
theorem runLen_body : ∀ l : List UInt8, runLen bodyB l = bodyLen l
  | [] => rfl
  | c :: l => by rw [runLen, bodyLen, runLen_body l]
/-- the closure that tells digits of a base -/
theorem inBase_any (c : UInt8) (b : Nat) (pb : Addr) (w : World) (hp : w.cell? pb = some (.int .i64 b)) :
    Calls Try.prog 41 #[.int .u8 c.toNat, .pointer (some pb)] w fun e w' => e = .returned (.bool (decide (digT c < b))) ∧ ∃ n, w' = w.drewN n := by
  obtain ⟨d, hd⟩ : ∃ d, digT c = d := ⟨_, rfl⟩
  have DG : Hid (∀ W, Calls Try.prog 42 #[.int .u8 c.toNat] W fun e w' => e = .returned (.int .i64 d) ∧ W = w') := Lib.hid fun W => hd ▸ tdigit_any c W
  have F : Hid (decide (digT c < b) = decide (d < b)) := Lib.hid (by rw [hd])
  clear hd
  go_enter Try.func41, Try.ntmps41
  go_wp2
  go_quiet ((go_at_call 42; with_reducible exact Calls.quiet_of_same ((DG.out _).mono fun _ _ h => ⟨h.1, h.2.symm⟩)))
  go_wp2
  go_ret
  exact ⟨ret_bool F.out.symm, _, rfl⟩
set_option maxHeartbeats 1000000 in
theorem run_body (r : ByteArray) (hs : r.size ≤ 20000) (w : World) : Calls Try.prog 38 #[.string r, .func (.func 39) #[] #[]] w fun e w' => e = .returned (.int .i64 (runLen bodyB r.data.toList)) ∧ ∃ n, w' = w.drewN n := by
  have HF : Hid (∀ (c : UInt8) n, Calls Try.prog 39 #[.int .u8 c.toNat] (w.drewN n) fun e w' => e = .returned (.bool (bodyB c)) ∧ ∃ m, w' = w.drewN m) := Lib.hid fun c n => (inName_any c (w.drewN n)).mono fun e w' ⟨h1, h2⟩ => ⟨h1, n, h2.symm⟩
  obtain ⟨R, hR⟩ : ∃ R, runLen bodyB r.data.toList = R := ⟨_, rfl⟩
  have HR := Lib.hid hR
  have HS := Lib.hid hs
  rw [hR]
  clear hR hs
  go_enter Try.func38, Try.ntmps38
  go_wp2_with fail
  go_loopw [8] (fun s8 wr => ∃ i n : Nat, s8 = .int .i64 i ∧ i ≤ r.size ∧ i + runLen bodyB (dr r i) = R ∧ wr = w.drewN n) (fun i _ => r.size - (intOf i).toNat)
  case atStart => exact ⟨0, 0, rfl, Nat.zero_le _, by rw [Nat.zero_add]; exact HR.out, rfl⟩
  case round =>
    obtain ⟨i, n, rfl, hi, hr, rfl⟩ := hrel
    have hs := HS.out
    by_cases hlt : i < r.size
    · obtain ⟨x, hx⟩ : ∃ x : UInt8, r[i] = x := ⟨_, rfl⟩
      have hd := dr_at hlt
      rw [hx] at hd
      rw [hd, runLen] at hr
      have hz : (i : Int) < r.size := by omega
      have w1 : IntKind.i64.wrap ((i : Int) + 1) = i + 1 := by rw [IntKind.wrap_i64]; omega
      obtain ⟨q, hq⟩ : ∃ q, bodyB x = q := ⟨_, rfl⟩
      have c2 := fun n => HF.out x n
      simp only [hq] at c2 hr
      have C2 := Lib.hid c2
      clear c2 hq hd
      cases q
      · have H3 : Hid (i = R) := Lib.hid (by simpa using hr)
        clear hr hs
        go_wp2_with (go_at_call 39; ((with_reducible refine (C2.out _).mono ?_); rintro e w3 ⟨rfl, n3, rfl⟩))
        go_ret
        exact ⟨by rw [← H3.out]; rfl, _, rfl⟩
      · have H3 : Hid (i + 1 + runLen bodyB (dr r (i + 1)) = R) := Lib.hid (by simp only [if_true] at hr; omega)
        clear hr hs
        go_wp2_with (go_at_call 39; ((with_reducible refine (C2.out _).mono ?_); rintro e w3 ⟨rfl, n3, rfl⟩))
        go_roundw
        case rel => exact ⟨i + 1, _, by go_num, by omega, H3.out, rfl⟩
        case measure => simp [intOf]; omega
    · have hz : ¬ (i : Int) < r.size := by omega
      have H3 : Hid ((r.size : Int) = R) := Lib.hid (by rw [dr_end (by omega)] at hr; simp only [runLen] at hr; omega)
      clear hr
      go_wp2_with fail
      go_ret
      exact ⟨by rw [← H3.out]; rfl, _, rfl⟩
set_option maxHeartbeats 1000000 in
theorem run_base (r : ByteArray) (hs : r.size ≤ 20000) (b : Nat) (pb : Addr) (w : World) (hp : w.cell? pb = some (.int .i64 b)) : Calls Try.prog 38 #[.string r, .func (.func 41) #[] #[.pointer (some pb)]] w fun e w' => e = .returned (.int .i64 (runLen (fun c => decide (digT c < b)) r.data.toList)) ∧ ∃ n, w' = w.drewN n := by
  have HF : Hid (∀ (c : UInt8) n, Calls Try.prog 41 #[.int .u8 c.toNat, .pointer (some pb)] (w.drewN n) fun e w' => e = .returned (.bool ((fun c => decide (digT c < b)) c)) ∧ ∃ m, w' = w.drewN m) := Lib.hid fun c n => (inBase_any c b pb (w.drewN n) hp).mono fun e w' ⟨h1, m, h2⟩ => ⟨h1, n + m, by rw [h2]; simp [World.drewN, Nat.add_assoc]⟩
  obtain ⟨R, hR⟩ : ∃ R, runLen (fun c => decide (digT c < b)) r.data.toList = R := ⟨_, rfl⟩
  have HR := Lib.hid hR
  have HS := Lib.hid hs
  rw [hR]
  clear hR hs hp
  go_enter Try.func38, Try.ntmps38
  go_wp2_with fail
  go_loopw [8] (fun s8 wr => ∃ i n : Nat, s8 = .int .i64 i ∧ i ≤ r.size ∧ i + runLen (fun c => decide (digT c < b)) (dr r i) = R ∧ wr = w.drewN n) (fun i _ => r.size - (intOf i).toNat)
  case atStart => exact ⟨0, 0, rfl, Nat.zero_le _, by rw [Nat.zero_add]; exact HR.out, rfl⟩
  case round =>
    obtain ⟨i, n, rfl, hi, hr, rfl⟩ := hrel
    have hs := HS.out
    by_cases hlt : i < r.size
    · obtain ⟨x, hx⟩ : ∃ x : UInt8, r[i] = x := ⟨_, rfl⟩
      have hd := dr_at hlt
      rw [hx] at hd
      rw [hd, runLen] at hr
      have hz : (i : Int) < r.size := by omega
      have w1 : IntKind.i64.wrap ((i : Int) + 1) = i + 1 := by rw [IntKind.wrap_i64]; omega
      obtain ⟨q, hq⟩ : ∃ q, (fun c => decide (digT c < b)) x = q := ⟨_, rfl⟩
      have c2 := fun n => HF.out x n
      simp only [hq] at c2 hr
      have C2 := Lib.hid c2
      clear c2 hq hd
      cases q
      · have H3 : Hid (i = R) := Lib.hid (by simpa using hr)
        clear hr hs
        go_wp2_with (go_at_call 41; ((with_reducible refine (C2.out _).mono ?_); rintro e w3 ⟨rfl, n3, rfl⟩))
        go_ret
        exact ⟨by rw [← H3.out]; rfl, _, rfl⟩
      · have H3 : Hid (i + 1 + runLen (fun c => decide (digT c < b)) (dr r (i + 1)) = R) := Lib.hid (by simp only [if_true] at hr; omega)
        clear hr hs
        go_wp2_with (go_at_call 41; ((with_reducible refine (C2.out _).mono ?_); rintro e w3 ⟨rfl, n3, rfl⟩))
        go_roundw
        case rel => exact ⟨i + 1, _, by go_num, by omega, H3.out, rfl⟩
        case measure => simp [intOf]; omega
    · have hz : ¬ (i : Int) < r.size := by omega
      have H3 : Hid ((r.size : Int) = R) := Lib.hid (by rw [dr_end (by omega)] at hr; simp only [runLen] at hr; omega)
      clear hr
      go_wp2_with fail
      go_ret
      exact ⟨by rw [← H3.out]; rfl, _, rfl⟩
theorem val_mono {b : Nat} (hb : 1 ≤ b) (L : List Nat) : ∀ M : List Nat, val b L ≤ val b (L ++ M)
  | [] => by rw [List.append_nil]; exact Nat.le_refl _
  | d :: M => by
    have h := val_mono hb (L ++ [d]) M
    rw [List.append_assoc] at h
    refine Nat.le_trans ?_ h
    rw [val_snoc]
    exact Nat.le_trans (Nat.le_mul_of_pos_right _ hb) (Nat.le_add_right _ _)
/-- the value of digits, where it has room -/
def valT (b : Nat) (l : List UInt8) : Nat := val b (l.map digT)
theorem valT_take {r : ByteArray} {i : Nat} (b : Nat) (h : i < r.size) : valT b (r.data.toList.take (i + 1)) = valT b (r.data.toList.take i) * b + digT r[i] := by
  unfold valT
  have h2 : i < r.data.toList.length := by rw [size_len]; exact h
  rw [List.take_succ_eq_append_getElem h2, List.map_append, List.map_singleton, val_snoc]
  rfl
theorem valT_le {b : Nat} (hb : 1 ≤ b) (l : List UInt8) (i : Nat) : valT b (l.take i) ≤ valT b l := by
  unfold valT
  conv => rhs; rw [← List.take_append_drop i l, List.map_append]
  exact val_mono hb _ _
set_option maxHeartbeats 2000000 in
theorem value_any (r : ByteArray) (hs : r.size ≤ 20000) (b : Nat) (hb : 1 ≤ b) (hb2 : b ≤ 16) (w : World) : Calls Try.prog 43 #[.string r, .int .i64 b] w fun e w' => e = .returned (.tuple #[.int .i64 (if valT b r.data.toList ≤ 9223372036854775807 then valT b r.data.toList else 0 : Nat), .bool (decide (valT b r.data.toList ≤ 9223372036854775807))]) ∧ w = w' := by
  have HM : Hid (∀ (a : Nat), a ≤ 9223372036854775807 → ∀ W, Calls Try.prog 46 #[.int .i64 a, .int .i64 b] W fun e w' => e = .returned (.tuple #[.int .i64 (q.mulV a b), .bool (q.mulB a b)]) ∧ W = w') := Lib.hid fun a ha W => q.mul_any a b (by omega) (by omega) (by omega) (by omega) W
  have HA : Hid (∀ (a d : Nat), a ≤ 9223372036854775807 → d ≤ 16 → ∀ W, Calls Try.prog 47 #[.int .i64 a, .int .i64 d] W fun e w' => e = .returned (.tuple #[.int .i64 (q.addV a d), .bool (q.addB a d)]) ∧ W = w') := Lib.hid fun a d ha hd W => q.add_any a d (by omega) (by omega) (by omega) (by omega) W
  obtain ⟨V, hV⟩ : ∃ V, valT b r.data.toList = V := ⟨_, rfl⟩
  have HV := Lib.hid hV
  have HS := Lib.hid hs
  have HB := Lib.hid hb
  rw [hV]
  clear hV hs hb hb2
  have NO : Hid (9223372036854775807 < V → (if V ≤ 9223372036854775807 then V else 0) = 0 ∧ decide (V ≤ 9223372036854775807) = false) := Lib.hid fun h => ⟨if_neg (by omega), decide_eq_false (by omega)⟩
  have YES : Hid (V ≤ 9223372036854775807 → (if V ≤ 9223372036854775807 then V else 0) = V ∧ decide (V ≤ 9223372036854775807) = true) := Lib.hid fun h => ⟨if_pos h, decide_eq_true h⟩
  generalize (if V ≤ 9223372036854775807 then V else 0) = Z at *
  generalize decide (V ≤ 9223372036854775807) = K at *
  go_enter Try.func43, Try.ntmps43
  go_wp2_with fail
  go_loopw [6, 7, 11] (fun s6 s7 s11 wr => ∃ i n : Nat, s6 = .int .i64 n ∧ s7 = .bool true ∧ s11 = .int .i64 i ∧ i ≤ r.size ∧ n = valT b (r.data.toList.take i) ∧ n ≤ 9223372036854775807 ∧ w = wr) (fun _ _ i _ => r.size - (intOf i).toNat)
  case atStart => exact ⟨0, 0, rfl, rfl, rfl, Nat.zero_le _, rfl, by omega, rfl⟩
  case round =>
    obtain ⟨i, n, rfl, rfl, rfl, hi, hn, hmax, rfl⟩ := hrel
    have hs := HS.out
    by_cases hlt : i < r.size
    · obtain ⟨x, hx⟩ : ∃ x : UInt8, r[i] = x := ⟨_, rfl⟩
      obtain ⟨d, hd⟩ : ∃ d, digT x = d := ⟨_, rfl⟩
      have hst := valT_take b hlt
      have hle := valT_le HB.out r.data.toList (i + 1)
      rw [HV.out] at hle
      rw [← hn, hx, hd] at hst
      have hd16 : d ≤ 16 := hd ▸ digT_le x
      have DG : Hid (∀ W, Calls Try.prog 42 #[.int .u8 x.toNat] W fun e w' => e = .returned (.int .i64 d) ∧ W = w') := Lib.hid fun W => hd ▸ tdigit_any x W
      have hz : (i : Int) < r.size := by omega
      have w1 : IntKind.i64.wrap ((i : Int) + 1) = i + 1 := by rw [IntKind.wrap_i64]; omega
      have M1 := HM.out n hmax
      obtain ⟨m, hm⟩ : ∃ m, n * b = m := ⟨_, rfl⟩
      have hmz : (n : Int) * (b : Int) = (m : Int) := by rw [← hm]; simp
      rw [hm] at hst
      by_cases ho : m ≤ 9223372036854775807
      · have e1 : q.mulV n b = m := by unfold q.mulV; rw [hmz, q.rv_yes (q.rm_iff.2 (by omega))]
        have e2 : q.mulB n b = true := by unfold q.mulB; rw [hmz]; exact q.rm_iff.2 (by omega)
        rw [e1, e2] at M1
        have M2 := Lib.hid M1
        have A1 := HA.out m d ho hd16
        by_cases ho2 : m + d ≤ 9223372036854775807
        · have e3 : q.addV m d = (m + d : Nat) := by unfold q.addV; rw [q.rv_yes (q.rm_iff.2 (by omega))]; simp
          have e4 : q.addB m d = true := by unfold q.addB; exact q.rm_iff.2 (by omega)
          rw [e3, e4] at A1
          have A2 := Lib.hid A1
          have HN : Hid (m + d = valT b (r.data.toList.take (i + 1)) ∧ m + d ≤ 9223372036854775807) := Lib.hid ⟨hst.symm, ho2⟩
          obtain ⟨y, hy⟩ : ∃ y, m + d = y := ⟨_, rfl⟩
          rw [hy] at A2 HN
          clear e1 e2 e3 e4 M1 A1 hst hn hm hmz ho ho2 hle hmax hd hd16 hy
          go_wp2_with (first | (go_at_call 46; (with_reducible refine (M2.out _).mono ?_); rintro e w1 ⟨rfl, rfl⟩) | (go_at_call 42; (with_reducible refine (DG.out _).mono ?_); rintro e w1 ⟨rfl, rfl⟩) | (go_at_call 47; (with_reducible refine (A2.out _).mono ?_); rintro e w1 ⟨rfl, rfl⟩))
          go_roundw
          case rel => exact ⟨i + 1, y, rfl, rfl, by go_num, by omega, HN.out.1, HN.out.2, trivial⟩
          case measure => simp [intOf]; omega
        · have e3 : q.addV m d = 0 := by unfold q.addV; rw [q.rv_no (fun h => ho2 (by have := q.rm_iff.1 h; omega))]
          have e4 : q.addB m d = false := by unfold q.addB; exact Bool.eq_false_iff.2 (fun h => ho2 (by have := q.rm_iff.1 h; omega))
          rw [e3, e4] at A1
          have A2 := Lib.hid A1
          have HN := Lib.hid (NO.out (by omega))
          clear e1 e2 e3 e4 M1 A1 hst hn hm hmz ho ho2 hle hmax hd hd16
          go_wp2_with (first | (go_at_call 46; (with_reducible refine (M2.out _).mono ?_); rintro e w1 ⟨rfl, rfl⟩) | (go_at_call 42; (with_reducible refine (DG.out _).mono ?_); rintro e w1 ⟨rfl, rfl⟩) | (go_at_call 47; (with_reducible refine (A2.out _).mono ?_); rintro e w1 ⟨rfl, rfl⟩))
          go_ret2
          exact ⟨by rw [HN.out.1, HN.out.2]; rfl, rfl⟩
      · have e1 : q.mulV n b = 0 := by unfold q.mulV; rw [hmz, q.rv_no (fun h => ho (by have := q.rm_iff.1 h; omega))]
        have e2 : q.mulB n b = false := by unfold q.mulB; rw [hmz]; exact Bool.eq_false_iff.2 (fun h => ho (by have := q.rm_iff.1 h; omega))
        rw [e1, e2] at M1
        have M2 := Lib.hid M1
        have HN := Lib.hid (NO.out (by omega))
        clear e1 e2 M1 hst hn hm hmz ho hle hmax hd hd16
        go_wp2_with (first | (go_at_call 46; (with_reducible refine (M2.out _).mono ?_); rintro e w1 ⟨rfl, rfl⟩))
        go_ret2
        exact ⟨by rw [HN.out.1, HN.out.2]; rfl, rfl⟩
    · have hz : ¬ (i : Int) < r.size := by omega
      have hn2 : n = V := by rw [hn, List.take_of_length_le (by rw [size_len]; omega)]; exact HV.out
      subst hn2
      have HN := Lib.hid (YES.out hmax)
      clear hn hmax
      go_wp2_with fail
      go_ret2
      exact ⟨by rw [HN.out.1, HN.out.2]; rfl, rfl⟩
theorem told_any (kd : Int) (t : ByteArray) (hs : t.size ≤ 20000) (w : World) : Calls Try.prog 35 #[.int .i64 kd, .string t] w fun e w' => e = .returned (.agg #[.int .i64 kd, .string t, .int .i64 0, .int .i64 0, .int .i64 0]) ∧ Below w.heap.size w w' := by
  have C := Lib.hid fun W => clone_any t hs W
  have x4 := Box.new w #[.int .i64 0, .string ⟨#[]⟩, .int .i64 0, .int .i64 0, .int .i64 0] 26
  have hb4 := (Below.refl w.heap.size w).alloc (Nat.le_refl _) (.cells #[.int .i64 0, .string ⟨#[]⟩, .int .i64 0, .int .i64 0, .int .i64 0] 26)
  have hz4 : (w.alloc (.cells #[.int .i64 0, .string ⟨#[]⟩, .int .i64 0, .int .i64 0, .int .i64 0] 26)).heap.size = w.heap.size + 1 := by simp
  have X4 := Lib.hid x4
  have B4 := Lib.hid hb4
  have Z4 := Lib.hid hz4
  clear x4 hb4 hz4 hs
  go_enter Try.func35, Try.ntmps35
  go_upto_region 1 with (fail)
  generalize w.alloc (.cells #[.int .i64 0, .string ⟨#[]⟩, .int .i64 0, .int .i64 0, .int .i64 0] 26) = w4 at *
  go_wp2_with (go_at_call 44; (with_reducible refine (C.out _).mono ?_); rintro e w1 ⟨rfl, hb⟩; have HB := Lib.hid hb; have XA := Lib.hid (X4.out.below hb (by have := Z4.out; omega)); clear hb; have ⟨c0, f0, c1, f1, c2, f2, c3, f3, c4, f4, _⟩ := XA.out)
  obtain ⟨y, _, hB2⟩ := Box.puts (us := [.int .i64 kd, .string t, .int .i64 0, .int .i64 0, .int .i64 0]) XA.out rfl
  refine bodyPost_ret (results_cell rfl rfl (run_loadVar_mid _ w.heap.size 0 26 _ _ y.range rfl rfl (by kernel_rfl))) rfl ?_
  exact ⟨rfl, (B4.out.trans (HB.out.mono B4.out.size)).trans (hB2 _ (Nat.le_refl _))⟩
end Go.Proofs.Ythdkkdgjcfjinaa.tk
