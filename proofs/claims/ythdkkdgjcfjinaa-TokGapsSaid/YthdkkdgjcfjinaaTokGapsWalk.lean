/- The walk of the law TokGaps: whatever the text and the gaps: it returns true, and what was in memory is as it was. -/
import Derived.Test.YthdkkdgjcfjinaaTkAwake
import Derived.Test.YthdkkdgjcfjinaaTkJoin
import Derived.Test.YthdkkdgjcfjinaaIRow
namespace Go.Proofs.Ythdkkdgjcfjinaa.tokGaps
open Go.ChangeShapes Go.WideShapes Go.ChangeAt Go.RowKit Go.Proofs.Ythdkkdgjcfjinaa.k Go.Proofs.Ythdkkdgjcfjinaa.rr Go.Proofs.Ythdkkdgjcfjinaa.tk Go.Proofs.Ythdkkdgjcfjinaa
set_option linter.unusedVariables false

theorem extract_size (s : ByteArray) (m : Nat) : (s.extract 0 m).size ≤ m := by
  rw [ByteArray.size_extract]
  omega
theorem len8 {w : World} {a : Option Addr} {len cap : Nat} {zs : List Int} (h : IsRow .u8 w a len cap zs) : (len : Int) ≤ 9223372036854775807 := by
  rcases h with ⟨_, h, _⟩ | ⟨x, _, h, h2, _⟩
  · omega
  · unfold maxLen at h2; omega
theorem at8 {w : World} {a : Option Addr} {len cap : Nat} {zs : List Int} (h : IsRow .u8 w a len cap zs) (hp : 0 < len) :
    ∃ b off, a = some ⟨b, off, none⟩ ∧ b < w.heap.size ∧ ∀ r, r < len → (0 ≤ zs.getD r 0 ∧ zs.getD r 0 ≤ 255) ∧ w.cell? ⟨b, off + r, none⟩ = some (.int .u8 (zs.getD r 0)) := by
  rcases h with ⟨_, h, _⟩ | ⟨x, rfl, hl, hm, hz, hc, hw⟩
  · omega
  · obtain ⟨b, off, spot⟩ := x
    have h0 := hc 0 (by omega)
    have hspot : spot = none := by simpa [Addr.add] using World.cell?_spot h0
    subst hspot
    have e : ∀ r, (Addr.add ⟨b, off, none⟩ r) = ⟨b, off + r, none⟩ := fun r => by unfold Addr.add; by_cases h : r = 0 <;> simp [h]
    rw [e] at h0
    refine ⟨b, off, rfl, k.lt_of_cell h0, fun r hr => ⟨?_, ?_⟩⟩
    · refine k.wf8 (hw _ ?_)
      have hr2 : r < zs.length := by omega
      rw [List.getD_eq_getElem?_getD, List.getElem?_eq_getElem hr2]
      exact List.getElem_mem hr2
    · have := hc r (by omega)
      rwa [e] at this
/-- the gap ahead of a sign -/
def gapN (zs : List Int) (len : Nat) (i : Nat) : Int := if i < len then zs.getD i 0 else 0
def gapG (zs : List Int) (len : Nat) (i : Nat) : List UInt8 := gaps.getD ((gapN zs len i).toNat % 8) [32]
theorem gapG_in (zs : List Int) (len : Nat) (i : Nat) : gapG zs len i ∈ gaps := by
  unfold gapG
  have h : (gapN zs len i).toNat % 8 < 8 := Nat.mod_lt _ (by omega)
  rw [List.getD_eq_getElem?_getD, List.getElem?_eq_getElem (show (gapN zs len i).toNat % 8 < gaps.length from h)]
  exact List.getElem_mem _
theorem cat (a b : List UInt8) : (⟨a.toArray⟩ : ByteArray) ++ ⟨b.toArray⟩ = ⟨(a ++ b).toArray⟩ := by
  apply ByteArray.ext
  apply Array.toList_inj.1
  rw [ByteArray.data_append]
  simp
theorem tx_list (l : List UInt8) : (⟨l.toArray⟩ : ByteArray).data.toList = l := rfl
theorem tx_size (l : List UInt8) : (⟨l.toArray⟩ : ByteArray).size = l.length := by simp [ByteArray.size]
set_option maxRecDepth 100000 in
set_option maxHeartbeats 16000000 in
theorem walk (s : ByteArray) (a : Option Addr) (len cap : Nat) (zs : List Int) (w : World) (hs : s.size ≤ maxLen) (hV : IsRow .u8 w a len cap zs) (hM : MaxL w) :
    Calls Try.prog 4 #[.string s, .slice a len cap] w fun e w' => e = .returned (.bool true) ∧ Below w.heap.size w w' := by
  have HK := Lib.hid (awake_any w hM)
  have MX := Lib.hid hM
  clear hM
  have W1 := Lib.hid hV
  have hlen := len8 hV
  have ht : (s.extract 0 (min (s.size : Int) 1500).toNat).size ≤ 1500 := Nat.le_trans (extract_size _ _) (by omega)
  have hs2 : (s.size : Int) ≤ 9223372036854775807 := by unfold maxLen at hs; omega
  clear hs hV
  go_enter Try.func4, Try.ntmps4
  go_upto_region 3 with (go_at_call 7; ((with_reducible refine (HK.out).mono ?_); rintro e w2 ⟨rfl, hb⟩; have HB := Lib.hid hb; clear hb HK))
  go_upto_region 4 with (fail)
  generalize s.extract 0 (min (s.size : Int) 1500).toNat = t at *
  have LX := Lib.hid fun W (hMW : MaxL W) => lex_any t (by omega) W hMW
  unfold GotL at LX
  obtain ⟨⟨er, M, ⟨pk, pt, pn, pl, pc⟩⟩, hlx⟩ : ∃ R, lex t.data.toList = R := ⟨_, rfl⟩
  rw [hlx] at LX
  simp only at LX
  rw [show (tC ⟨pk, pt, pn, pl, pc⟩).toArray = #[.int .i64 pk, .string ⟨pt.toArray⟩, .int .i64 pn, .int .i64 pl, .int .i64 pc] from rfl] at LX
  have HX := Lib.hid hlx
  have HT := Lib.hid ht
  clear hlx hs2 ht
  go_upto_region 5 with (go_at_call 8; ((with_reducible refine (LX.out _ (MX.out.below HB.out)).mono ?_); rintro e w3 ⟨A, n, c, rfl, hr, hb⟩; have R1 := Lib.hid hr; have B3 := Lib.hid (HB.out.trans (hb.mono HB.out.size)); clear hr hb))
  obtain ⟨_, hb5, _⟩ := boxes1 (Below.refl (w3.alloc (.cells #[.int .i64 pk, .string ⟨pt.toArray⟩, .int .i64 pn, .int .i64 pl, .int .i64 pc] 26)).heap.size (w3.alloc (.cells #[.int .i64 pk, .string ⟨pt.toArray⟩, .int .i64 pn, .int .i64 pl, .int .i64 pc] 26)))
  have S1 := Lib.hid ((R1.out.below hb5).more hb5.size)
  clear R1
  have B4 := Lib.hid (B3.out.trans (hb5.mono B3.out.size))
  generalize w3.alloc (.cells #[.int .i64 pk, .string ⟨pt.toArray⟩, .int .i64 pn, .int .i64 pl, .int .i64 pc] 26) = w4 at *
  obtain rfl : M.length = n := S1.out.1
  clear hb5 LX B3 HB
  by_cases her : er = 0
  · subst her
    by_cases hlong : 100 < M.length
    · have hz : (100 : Int) < M.length := by omega
      go_wp2_with fail
      go_ret
      exact ⟨rfl, B4.out⟩
    · have hz : ¬ ((100 : Int) < M.length) := by omega
      have hG := gapG_in zs len
      obtain ⟨j1, N, j2, j3, j4⟩ := lex_join HX.out (by rw [size_len]; exact HT.out) (by omega) hG
      have HG := Lib.hid fun i => (show gapG zs len i = gaps.getD ((gapN zs len i).toNat % 8) [32] from rfl)
      have J1 := Lib.hid j1
      have J2 := Lib.hid j2
      have J3 := Lib.hid j3
      have J4 := Lib.hid j4
      have APP := Lib.hid fun i => (show joinG (gapG zs len) 0 M = joinG (gapG zs len) 0 (M.take i) ++ joinG (gapG zs len) (0 + (M.take i).length) (M.drop i) by rw [← joinG_app, List.take_append_drop])
      have SNO := Lib.hid fun i u (h : M[i]? = some u) => (show joinG (gapG zs len) 0 (M.take (i + 1)) = joinG (gapG zs len) 0 (M.take i) ++ (gapG zs len i ++ u.text) by
        obtain ⟨h1, h2⟩ := List.getElem?_eq_some_iff.1 h
        rw [List.take_succ_eq_append_getElem h1, h2, joinG_snoc, List.length_take, Nat.min_eq_left (by omega), Nat.zero_add])
      clear j1 j2 j3 j4 hG
      have hml : M.length ≤ 100 := by omega
      generalize gapG zs len = G at *
      go_upto_region 9 with (fail)
      go_loopw [8, 9] (fun s8 s9 wr => ∃ i : Nat, i ≤ M.length ∧ s9 = .int .i64 i ∧ s8 = .string ⟨(joinG G 0 (M.take i)).toArray⟩ ∧ rr.Rd tC 5 wr wr.heap.size A M.length c M ∧ Below w.heap.size w wr) (fun _ i _ => M.length - (intOf i).toNat)
      case atStart => exact ⟨0, Nat.zero_le _, rfl, rfl, S1.out, B4.out⟩
      case round =>
        obtain ⟨i, hi, rfl, rfl, hr, hb⟩ := hrel
        clear S1 B4
        have S1 := Lib.hid hr
        have B4 := Lib.hid hb
        clear hr hb
        by_cases hlt : i < M.length
        · obtain ⟨u, hu⟩ : ∃ u, M[i]? = some u := ⟨_, List.getElem?_eq_getElem hlt⟩
          obtain ⟨b, off, rfl, hbw, hc⟩ := S1.out.2.2.2.2 (by omega)
          have q1 := hc i u hu 1 _ rfl
          have hap := congrArg List.length (APP.out (i + 1))
          have hj1 := J1.out
          have hsn := SNO.out i u hu
          rw [hsn] at hap
          rw [List.length_append, List.length_append, List.length_append] at hap
          have hcc := cat (joinG G 0 (M.take i)) (G i ++ u.text)
          rw [← hsn] at hcc
          have hsz1 := tx_size (joinG G 0 (M.take i))
          have hsz2 := tx_size (G i ++ u.text)
          have hsz3 := tx_size u.text
          have hcg := cat (G i) u.text
          rw [List.length_append] at hsz2
          have w1 : IntKind.i64.wrap ((i : Int) + 1) = i + 1 := by rw [IntKind.wrap_i64]; omega
          have hzi : (i : Int) < M.length := by omega
          have NB := Lib.hid (show (⟨(joinG G 0 (M.take (i + 1))).toArray⟩ : ByteArray) = ⟨(joinG G 0 (M.take (i + 1))).toArray⟩ from rfl)
          have HGI := HG.out i
          have HU := Lib.hid hu
          clear hc hu hsn
          obtain ⟨z, hz0⟩ : ∃ z, gapN zs len i = z := ⟨_, rfl⟩
          rw [hz0] at HGI
          have hq1 : wr.cell? ⟨b, off + i * 5 + 1, none⟩ = some (.string ⟨u.text.toArray⟩) := q1
          clear q1 hap
          by_cases hil : i < len
          · obtain ⟨bz, oz, rfl, hbz, hcz⟩ := at8 W1.out (by omega)
            obtain ⟨hz1, hz2⟩ := hcz i hil
            have hz3 : zs.getD i 0 = z := by rw [← hz0]; unfold gapN; rw [if_pos hil]
            rw [hz3] at hz1 hz2
            have hck : wr.cell? ⟨bz, oz + i, none⟩ = some (.int .u8 z) := (B4.out.cell (p := ⟨bz, oz + i, none⟩) hbz).trans hz2
            have hiz : (i : Int) < len := by omega
            have hzt : z.tmod 8 = z % 8 := Int.tmod_eq_emod_of_nonneg hz1.1
            clear hz2 hcz hz0 hz3
            have h8 : z % 8 = 0 ∨ z % 8 = 1 ∨ z % 8 = 2 ∨ z % 8 = 3 ∨ z % 8 = 4 ∨ z % 8 = 5 ∨ z % 8 = 6 ∨ z % 8 = 7 := by omega
            rcases h8 with h8 | h8 | h8 | h8 | h8 | h8 | h8 | h8
            · rw [h8] at hzt
              have hGi : G i = [32] := by
                rw [HGI]
                rw [show (z : Int).toNat % 8 = 0 by omega]
                rfl
              rw [hGi] at hcg hcc hsz2
              have hcg2 : (⟨#[32]⟩ : ByteArray) ++ ⟨u.text.toArray⟩ = ⟨([32] ++ u.text).toArray⟩ := hcg
              have hcap2 : (⟨([32] ++ u.text).toArray⟩ : ByteArray).size = 1 + (⟨u.text.toArray⟩ : ByteArray).size := by rw [hsz2, hsz3]; rfl
              have hbnd : (⟨(joinG G 0 (M.take i)).toArray⟩ : ByteArray).size + (1 + (⟨u.text.toArray⟩ : ByteArray).size) ≤ 3000 := by
                have := congrArg List.length (APP.out (i + 1))
                rw [SNO.out i u HU.out, hGi] at this
                simp only [List.length_append] at this
                rw [hsz1, hsz3]
                simp at this
                omega
              clear HGI hGi hsz1 hsz2 hsz3 hcg hj1
              generalize (⟨u.text.toArray⟩ : ByteArray) = tb at *
              generalize (⟨([32] ++ u.text).toArray⟩ : ByteArray) = gb at *
              generalize (⟨(joinG G 0 (M.take i)).toArray⟩ : ByteArray) = sb at *
              generalize hnb : (⟨(joinG G 0 (M.take (i + 1))).toArray⟩ : ByteArray) = nb at *
              have hl1 : ¬ 9223372036854775807 < 1 + tb.size := by omega
              have hl2 : ¬ 9223372036854775807 < sb.size + gb.size := by omega
              have HCAP := Lib.hid hcap2
              have NBB := Lib.hid hnb
              clear hcap2 hnb
              go_upto_region 14 with (fail)
              go_region
              go_wp2_with fail
              have hbA : Below wr.heap.size wr (wr.alloc (.cells #[.string ⟨#[32]⟩, .string ⟨#[10]⟩, .string ⟨#[9]⟩, .string ⟨#[32, 47, 47, 32, 120, 10]⟩, .string ⟨#[40, 42, 32, 42, 32, 42, 41]⟩, .string ⟨#[40, 42, 42, 41, 32]⟩, .string ⟨#[10, 10]⟩, .string ⟨#[40, 42, 47, 47, 42, 41]⟩] 9)).drew := ((Below.refl _ _).alloc (Nat.le_refl _) _).drew
              go_roundw
              case rel => exact ⟨i + 1, by omega, by go_num, by rw [← NBB.out], (S1.out.below hbA).more hbA.size, B4.out.trans (hbA.mono B4.out.size)⟩
              case measure => simp [intOf]; omega
            · rw [h8] at hzt
              have hGi : G i = [10] := by
                rw [HGI]
                rw [show (z : Int).toNat % 8 = 1 by omega]
                rfl
              rw [hGi] at hcg hcc hsz2
              have hcg2 : (⟨#[10]⟩ : ByteArray) ++ ⟨u.text.toArray⟩ = ⟨([10] ++ u.text).toArray⟩ := hcg
              have hcap2 : (⟨([10] ++ u.text).toArray⟩ : ByteArray).size = 1 + (⟨u.text.toArray⟩ : ByteArray).size := by rw [hsz2, hsz3]; rfl
              have hbnd : (⟨(joinG G 0 (M.take i)).toArray⟩ : ByteArray).size + (1 + (⟨u.text.toArray⟩ : ByteArray).size) ≤ 3000 := by
                have := congrArg List.length (APP.out (i + 1))
                rw [SNO.out i u HU.out, hGi] at this
                simp only [List.length_append] at this
                rw [hsz1, hsz3]
                simp at this
                omega
              clear HGI hGi hsz1 hsz2 hsz3 hcg hj1
              generalize (⟨u.text.toArray⟩ : ByteArray) = tb at *
              generalize (⟨([10] ++ u.text).toArray⟩ : ByteArray) = gb at *
              generalize (⟨(joinG G 0 (M.take i)).toArray⟩ : ByteArray) = sb at *
              generalize hnb : (⟨(joinG G 0 (M.take (i + 1))).toArray⟩ : ByteArray) = nb at *
              have hl1 : ¬ 9223372036854775807 < 1 + tb.size := by omega
              have hl2 : ¬ 9223372036854775807 < sb.size + gb.size := by omega
              have HCAP := Lib.hid hcap2
              have NBB := Lib.hid hnb
              clear hcap2 hnb
              go_upto_region 14 with (fail)
              go_region
              go_wp2_with fail
              have hbA : Below wr.heap.size wr (wr.alloc (.cells #[.string ⟨#[32]⟩, .string ⟨#[10]⟩, .string ⟨#[9]⟩, .string ⟨#[32, 47, 47, 32, 120, 10]⟩, .string ⟨#[40, 42, 32, 42, 32, 42, 41]⟩, .string ⟨#[40, 42, 42, 41, 32]⟩, .string ⟨#[10, 10]⟩, .string ⟨#[40, 42, 47, 47, 42, 41]⟩] 9)).drew := ((Below.refl _ _).alloc (Nat.le_refl _) _).drew
              go_roundw
              case rel => exact ⟨i + 1, by omega, by go_num, by rw [← NBB.out], (S1.out.below hbA).more hbA.size, B4.out.trans (hbA.mono B4.out.size)⟩
              case measure => simp [intOf]; omega
            · rw [h8] at hzt
              have hGi : G i = [9] := by
                rw [HGI]
                rw [show (z : Int).toNat % 8 = 2 by omega]
                rfl
              rw [hGi] at hcg hcc hsz2
              have hcg2 : (⟨#[9]⟩ : ByteArray) ++ ⟨u.text.toArray⟩ = ⟨([9] ++ u.text).toArray⟩ := hcg
              have hcap2 : (⟨([9] ++ u.text).toArray⟩ : ByteArray).size = 1 + (⟨u.text.toArray⟩ : ByteArray).size := by rw [hsz2, hsz3]; rfl
              have hbnd : (⟨(joinG G 0 (M.take i)).toArray⟩ : ByteArray).size + (1 + (⟨u.text.toArray⟩ : ByteArray).size) ≤ 3000 := by
                have := congrArg List.length (APP.out (i + 1))
                rw [SNO.out i u HU.out, hGi] at this
                simp only [List.length_append] at this
                rw [hsz1, hsz3]
                simp at this
                omega
              clear HGI hGi hsz1 hsz2 hsz3 hcg hj1
              generalize (⟨u.text.toArray⟩ : ByteArray) = tb at *
              generalize (⟨([9] ++ u.text).toArray⟩ : ByteArray) = gb at *
              generalize (⟨(joinG G 0 (M.take i)).toArray⟩ : ByteArray) = sb at *
              generalize hnb : (⟨(joinG G 0 (M.take (i + 1))).toArray⟩ : ByteArray) = nb at *
              have hl1 : ¬ 9223372036854775807 < 1 + tb.size := by omega
              have hl2 : ¬ 9223372036854775807 < sb.size + gb.size := by omega
              have HCAP := Lib.hid hcap2
              have NBB := Lib.hid hnb
              clear hcap2 hnb
              go_upto_region 14 with (fail)
              go_region
              go_wp2_with fail
              have hbA : Below wr.heap.size wr (wr.alloc (.cells #[.string ⟨#[32]⟩, .string ⟨#[10]⟩, .string ⟨#[9]⟩, .string ⟨#[32, 47, 47, 32, 120, 10]⟩, .string ⟨#[40, 42, 32, 42, 32, 42, 41]⟩, .string ⟨#[40, 42, 42, 41, 32]⟩, .string ⟨#[10, 10]⟩, .string ⟨#[40, 42, 47, 47, 42, 41]⟩] 9)).drew := ((Below.refl _ _).alloc (Nat.le_refl _) _).drew
              go_roundw
              case rel => exact ⟨i + 1, by omega, by go_num, by rw [← NBB.out], (S1.out.below hbA).more hbA.size, B4.out.trans (hbA.mono B4.out.size)⟩
              case measure => simp [intOf]; omega
            · rw [h8] at hzt
              have hGi : G i = [32, 47, 47, 32, 120, 10] := by
                rw [HGI]
                rw [show (z : Int).toNat % 8 = 3 by omega]
                rfl
              rw [hGi] at hcg hcc hsz2
              have hcg2 : (⟨#[32, 47, 47, 32, 120, 10]⟩ : ByteArray) ++ ⟨u.text.toArray⟩ = ⟨([32, 47, 47, 32, 120, 10] ++ u.text).toArray⟩ := hcg
              have hcap2 : (⟨([32, 47, 47, 32, 120, 10] ++ u.text).toArray⟩ : ByteArray).size = 6 + (⟨u.text.toArray⟩ : ByteArray).size := by rw [hsz2, hsz3]; rfl
              have hbnd : (⟨(joinG G 0 (M.take i)).toArray⟩ : ByteArray).size + (6 + (⟨u.text.toArray⟩ : ByteArray).size) ≤ 3000 := by
                have := congrArg List.length (APP.out (i + 1))
                rw [SNO.out i u HU.out, hGi] at this
                simp only [List.length_append] at this
                rw [hsz1, hsz3]
                simp at this
                omega
              clear HGI hGi hsz1 hsz2 hsz3 hcg hj1
              generalize (⟨u.text.toArray⟩ : ByteArray) = tb at *
              generalize (⟨([32, 47, 47, 32, 120, 10] ++ u.text).toArray⟩ : ByteArray) = gb at *
              generalize (⟨(joinG G 0 (M.take i)).toArray⟩ : ByteArray) = sb at *
              generalize hnb : (⟨(joinG G 0 (M.take (i + 1))).toArray⟩ : ByteArray) = nb at *
              have hl1 : ¬ 9223372036854775807 < 6 + tb.size := by omega
              have hl2 : ¬ 9223372036854775807 < sb.size + gb.size := by omega
              have HCAP := Lib.hid hcap2
              have NBB := Lib.hid hnb
              clear hcap2 hnb
              go_upto_region 14 with (fail)
              go_region
              go_wp2_with fail
              have hbA : Below wr.heap.size wr (wr.alloc (.cells #[.string ⟨#[32]⟩, .string ⟨#[10]⟩, .string ⟨#[9]⟩, .string ⟨#[32, 47, 47, 32, 120, 10]⟩, .string ⟨#[40, 42, 32, 42, 32, 42, 41]⟩, .string ⟨#[40, 42, 42, 41, 32]⟩, .string ⟨#[10, 10]⟩, .string ⟨#[40, 42, 47, 47, 42, 41]⟩] 9)).drew := ((Below.refl _ _).alloc (Nat.le_refl _) _).drew
              go_roundw
              case rel => exact ⟨i + 1, by omega, by go_num, by rw [← NBB.out], (S1.out.below hbA).more hbA.size, B4.out.trans (hbA.mono B4.out.size)⟩
              case measure => simp [intOf]; omega
            · rw [h8] at hzt
              have hGi : G i = [40, 42, 32, 42, 32, 42, 41] := by
                rw [HGI]
                rw [show (z : Int).toNat % 8 = 4 by omega]
                rfl
              rw [hGi] at hcg hcc hsz2
              have hcg2 : (⟨#[40, 42, 32, 42, 32, 42, 41]⟩ : ByteArray) ++ ⟨u.text.toArray⟩ = ⟨([40, 42, 32, 42, 32, 42, 41] ++ u.text).toArray⟩ := hcg
              have hcap2 : (⟨([40, 42, 32, 42, 32, 42, 41] ++ u.text).toArray⟩ : ByteArray).size = 7 + (⟨u.text.toArray⟩ : ByteArray).size := by rw [hsz2, hsz3]; rfl
              have hbnd : (⟨(joinG G 0 (M.take i)).toArray⟩ : ByteArray).size + (7 + (⟨u.text.toArray⟩ : ByteArray).size) ≤ 3000 := by
                have := congrArg List.length (APP.out (i + 1))
                rw [SNO.out i u HU.out, hGi] at this
                simp only [List.length_append] at this
                rw [hsz1, hsz3]
                simp at this
                omega
              clear HGI hGi hsz1 hsz2 hsz3 hcg hj1
              generalize (⟨u.text.toArray⟩ : ByteArray) = tb at *
              generalize (⟨([40, 42, 32, 42, 32, 42, 41] ++ u.text).toArray⟩ : ByteArray) = gb at *
              generalize (⟨(joinG G 0 (M.take i)).toArray⟩ : ByteArray) = sb at *
              generalize hnb : (⟨(joinG G 0 (M.take (i + 1))).toArray⟩ : ByteArray) = nb at *
              have hl1 : ¬ 9223372036854775807 < 7 + tb.size := by omega
              have hl2 : ¬ 9223372036854775807 < sb.size + gb.size := by omega
              have HCAP := Lib.hid hcap2
              have NBB := Lib.hid hnb
              clear hcap2 hnb
              go_upto_region 14 with (fail)
              go_region
              go_wp2_with fail
              have hbA : Below wr.heap.size wr (wr.alloc (.cells #[.string ⟨#[32]⟩, .string ⟨#[10]⟩, .string ⟨#[9]⟩, .string ⟨#[32, 47, 47, 32, 120, 10]⟩, .string ⟨#[40, 42, 32, 42, 32, 42, 41]⟩, .string ⟨#[40, 42, 42, 41, 32]⟩, .string ⟨#[10, 10]⟩, .string ⟨#[40, 42, 47, 47, 42, 41]⟩] 9)).drew := ((Below.refl _ _).alloc (Nat.le_refl _) _).drew
              go_roundw
              case rel => exact ⟨i + 1, by omega, by go_num, by rw [← NBB.out], (S1.out.below hbA).more hbA.size, B4.out.trans (hbA.mono B4.out.size)⟩
              case measure => simp [intOf]; omega
            · rw [h8] at hzt
              have hGi : G i = [40, 42, 42, 41, 32] := by
                rw [HGI]
                rw [show (z : Int).toNat % 8 = 5 by omega]
                rfl
              rw [hGi] at hcg hcc hsz2
              have hcg2 : (⟨#[40, 42, 42, 41, 32]⟩ : ByteArray) ++ ⟨u.text.toArray⟩ = ⟨([40, 42, 42, 41, 32] ++ u.text).toArray⟩ := hcg
              have hcap2 : (⟨([40, 42, 42, 41, 32] ++ u.text).toArray⟩ : ByteArray).size = 5 + (⟨u.text.toArray⟩ : ByteArray).size := by rw [hsz2, hsz3]; rfl
              have hbnd : (⟨(joinG G 0 (M.take i)).toArray⟩ : ByteArray).size + (5 + (⟨u.text.toArray⟩ : ByteArray).size) ≤ 3000 := by
                have := congrArg List.length (APP.out (i + 1))
                rw [SNO.out i u HU.out, hGi] at this
                simp only [List.length_append] at this
                rw [hsz1, hsz3]
                simp at this
                omega
              clear HGI hGi hsz1 hsz2 hsz3 hcg hj1
              generalize (⟨u.text.toArray⟩ : ByteArray) = tb at *
              generalize (⟨([40, 42, 42, 41, 32] ++ u.text).toArray⟩ : ByteArray) = gb at *
              generalize (⟨(joinG G 0 (M.take i)).toArray⟩ : ByteArray) = sb at *
              generalize hnb : (⟨(joinG G 0 (M.take (i + 1))).toArray⟩ : ByteArray) = nb at *
              have hl1 : ¬ 9223372036854775807 < 5 + tb.size := by omega
              have hl2 : ¬ 9223372036854775807 < sb.size + gb.size := by omega
              have HCAP := Lib.hid hcap2
              have NBB := Lib.hid hnb
              clear hcap2 hnb
              go_upto_region 14 with (fail)
              go_region
              go_wp2_with fail
              have hbA : Below wr.heap.size wr (wr.alloc (.cells #[.string ⟨#[32]⟩, .string ⟨#[10]⟩, .string ⟨#[9]⟩, .string ⟨#[32, 47, 47, 32, 120, 10]⟩, .string ⟨#[40, 42, 32, 42, 32, 42, 41]⟩, .string ⟨#[40, 42, 42, 41, 32]⟩, .string ⟨#[10, 10]⟩, .string ⟨#[40, 42, 47, 47, 42, 41]⟩] 9)).drew := ((Below.refl _ _).alloc (Nat.le_refl _) _).drew
              go_roundw
              case rel => exact ⟨i + 1, by omega, by go_num, by rw [← NBB.out], (S1.out.below hbA).more hbA.size, B4.out.trans (hbA.mono B4.out.size)⟩
              case measure => simp [intOf]; omega
            · rw [h8] at hzt
              have hGi : G i = [10, 10] := by
                rw [HGI]
                rw [show (z : Int).toNat % 8 = 6 by omega]
                rfl
              rw [hGi] at hcg hcc hsz2
              have hcg2 : (⟨#[10, 10]⟩ : ByteArray) ++ ⟨u.text.toArray⟩ = ⟨([10, 10] ++ u.text).toArray⟩ := hcg
              have hcap2 : (⟨([10, 10] ++ u.text).toArray⟩ : ByteArray).size = 2 + (⟨u.text.toArray⟩ : ByteArray).size := by rw [hsz2, hsz3]; rfl
              have hbnd : (⟨(joinG G 0 (M.take i)).toArray⟩ : ByteArray).size + (2 + (⟨u.text.toArray⟩ : ByteArray).size) ≤ 3000 := by
                have := congrArg List.length (APP.out (i + 1))
                rw [SNO.out i u HU.out, hGi] at this
                simp only [List.length_append] at this
                rw [hsz1, hsz3]
                simp at this
                omega
              clear HGI hGi hsz1 hsz2 hsz3 hcg hj1
              generalize (⟨u.text.toArray⟩ : ByteArray) = tb at *
              generalize (⟨([10, 10] ++ u.text).toArray⟩ : ByteArray) = gb at *
              generalize (⟨(joinG G 0 (M.take i)).toArray⟩ : ByteArray) = sb at *
              generalize hnb : (⟨(joinG G 0 (M.take (i + 1))).toArray⟩ : ByteArray) = nb at *
              have hl1 : ¬ 9223372036854775807 < 2 + tb.size := by omega
              have hl2 : ¬ 9223372036854775807 < sb.size + gb.size := by omega
              have HCAP := Lib.hid hcap2
              have NBB := Lib.hid hnb
              clear hcap2 hnb
              go_upto_region 14 with (fail)
              go_region
              go_wp2_with fail
              have hbA : Below wr.heap.size wr (wr.alloc (.cells #[.string ⟨#[32]⟩, .string ⟨#[10]⟩, .string ⟨#[9]⟩, .string ⟨#[32, 47, 47, 32, 120, 10]⟩, .string ⟨#[40, 42, 32, 42, 32, 42, 41]⟩, .string ⟨#[40, 42, 42, 41, 32]⟩, .string ⟨#[10, 10]⟩, .string ⟨#[40, 42, 47, 47, 42, 41]⟩] 9)).drew := ((Below.refl _ _).alloc (Nat.le_refl _) _).drew
              go_roundw
              case rel => exact ⟨i + 1, by omega, by go_num, by rw [← NBB.out], (S1.out.below hbA).more hbA.size, B4.out.trans (hbA.mono B4.out.size)⟩
              case measure => simp [intOf]; omega
            · rw [h8] at hzt
              have hGi : G i = [40, 42, 47, 47, 42, 41] := by
                rw [HGI]
                rw [show (z : Int).toNat % 8 = 7 by omega]
                rfl
              rw [hGi] at hcg hcc hsz2
              have hcg2 : (⟨#[40, 42, 47, 47, 42, 41]⟩ : ByteArray) ++ ⟨u.text.toArray⟩ = ⟨([40, 42, 47, 47, 42, 41] ++ u.text).toArray⟩ := hcg
              have hcap2 : (⟨([40, 42, 47, 47, 42, 41] ++ u.text).toArray⟩ : ByteArray).size = 6 + (⟨u.text.toArray⟩ : ByteArray).size := by rw [hsz2, hsz3]; rfl
              have hbnd : (⟨(joinG G 0 (M.take i)).toArray⟩ : ByteArray).size + (6 + (⟨u.text.toArray⟩ : ByteArray).size) ≤ 3000 := by
                have := congrArg List.length (APP.out (i + 1))
                rw [SNO.out i u HU.out, hGi] at this
                simp only [List.length_append] at this
                rw [hsz1, hsz3]
                simp at this
                omega
              clear HGI hGi hsz1 hsz2 hsz3 hcg hj1
              generalize (⟨u.text.toArray⟩ : ByteArray) = tb at *
              generalize (⟨([40, 42, 47, 47, 42, 41] ++ u.text).toArray⟩ : ByteArray) = gb at *
              generalize (⟨(joinG G 0 (M.take i)).toArray⟩ : ByteArray) = sb at *
              generalize hnb : (⟨(joinG G 0 (M.take (i + 1))).toArray⟩ : ByteArray) = nb at *
              have hl1 : ¬ 9223372036854775807 < 6 + tb.size := by omega
              have hl2 : ¬ 9223372036854775807 < sb.size + gb.size := by omega
              have HCAP := Lib.hid hcap2
              have NBB := Lib.hid hnb
              clear hcap2 hnb
              go_upto_region 14 with (fail)
              go_region
              go_wp2_with fail
              have hbA : Below wr.heap.size wr (wr.alloc (.cells #[.string ⟨#[32]⟩, .string ⟨#[10]⟩, .string ⟨#[9]⟩, .string ⟨#[32, 47, 47, 32, 120, 10]⟩, .string ⟨#[40, 42, 32, 42, 32, 42, 41]⟩, .string ⟨#[40, 42, 42, 41, 32]⟩, .string ⟨#[10, 10]⟩, .string ⟨#[40, 42, 47, 47, 42, 41]⟩] 9)).drew := ((Below.refl _ _).alloc (Nat.le_refl _) _).drew
              go_roundw
              case rel => exact ⟨i + 1, by omega, by go_num, by rw [← NBB.out], (S1.out.below hbA).more hbA.size, B4.out.trans (hbA.mono B4.out.size)⟩
              case measure => simp [intOf]; omega
          · have hz3 : z = 0 := by rw [← hz0]; unfold gapN; rw [if_neg hil]
            subst hz3
            have hiz : ¬ ((i : Int) < len) := by omega
            clear hz0
            have hGi : G i = [32] := by
              rw [HGI]
              rw [show (0 : Int).toNat % 8 = 0 by omega]
              rfl
            rw [hGi] at hcg hcc hsz2
            have hcg2 : (⟨#[32]⟩ : ByteArray) ++ ⟨u.text.toArray⟩ = ⟨([32] ++ u.text).toArray⟩ := hcg
            have hcap2 : (⟨([32] ++ u.text).toArray⟩ : ByteArray).size = 1 + (⟨u.text.toArray⟩ : ByteArray).size := by rw [hsz2, hsz3]; rfl
            have hbnd : (⟨(joinG G 0 (M.take i)).toArray⟩ : ByteArray).size + (1 + (⟨u.text.toArray⟩ : ByteArray).size) ≤ 3000 := by
              have := congrArg List.length (APP.out (i + 1))
              rw [SNO.out i u HU.out, hGi] at this
              simp only [List.length_append] at this
              rw [hsz1, hsz3]
              simp at this
              omega
            clear HGI hGi hsz1 hsz2 hsz3 hcg hj1
            generalize (⟨u.text.toArray⟩ : ByteArray) = tb at *
            generalize (⟨([32] ++ u.text).toArray⟩ : ByteArray) = gb at *
            generalize (⟨(joinG G 0 (M.take i)).toArray⟩ : ByteArray) = sb at *
            generalize hnb : (⟨(joinG G 0 (M.take (i + 1))).toArray⟩ : ByteArray) = nb at *
            have hl1 : ¬ 9223372036854775807 < 1 + tb.size := by omega
            have hl2 : ¬ 9223372036854775807 < sb.size + gb.size := by omega
            have HCAP := Lib.hid hcap2
            have NBB := Lib.hid hnb
            clear hcap2 hnb
            go_upto_region 14 with (fail)
            go_region
            go_wp2_with fail
            have hbA : Below wr.heap.size wr (wr.alloc (.cells #[.string ⟨#[32]⟩, .string ⟨#[10]⟩, .string ⟨#[9]⟩, .string ⟨#[32, 47, 47, 32, 120, 10]⟩, .string ⟨#[40, 42, 32, 42, 32, 42, 41]⟩, .string ⟨#[40, 42, 42, 41, 32]⟩, .string ⟨#[10, 10]⟩, .string ⟨#[40, 42, 47, 47, 42, 41]⟩] 9)).drew := ((Below.refl _ _).alloc (Nat.le_refl _) _).drew
            go_roundw
            case rel => exact ⟨i + 1, by omega, by go_num, by rw [← NBB.out], (S1.out.below hbA).more hbA.size, B4.out.trans (hbA.mono B4.out.size)⟩
            case measure => simp [intOf]; omega
        · obtain rfl : i = M.length := by omega
          have hzi : ¬ ((M.length : Int) < M.length) := by omega
          rw [List.take_length]
          have hts : (⟨(joinG G 0 M).toArray⟩ : ByteArray).size ≤ 20000 := by rw [tx_size]; have := J1.out; omega
          have LY := Lib.hid fun W (hMW : MaxL W) => lex_any ⟨(joinG G 0 M).toArray⟩ hts W hMW
          unfold GotL at LY
          rw [tx_list, J2.out] at LY
          simp only at LY
          rw [show (tC zeroT).toArray = #[.int .i64 0, .string ⟨#[]⟩, .int .i64 0, .int .i64 0, .int .i64 0] from rfl] at LY
          have SM := Lib.hid fun W c' A' (h1 : rr.Rd tC 5 W W.heap.size A M.length c M) (h2 : rr.Rd tC 5 W W.heap.size A' M.length c' N) => same_any false M N J3.out J4.out W h1 h2
          generalize (⟨(joinG G 0 M).toArray⟩ : ByteArray) = tx at *
          clear hts
          go_upto_region 16 with (go_at_call 8; ((with_reducible refine (LY.out _ (MX.out.below B4.out)).mono ?_); rintro e w5 ⟨A', n', c', rfl, hr, hb⟩; obtain rfl : M.length = n' := (by rw [J3.out]; exact hr.1); have R2 := Lib.hid hr; have R1 := Lib.hid ((S1.out.below hb).more hb.size); have B5 := Lib.hid (B4.out.trans (hb.mono B4.out.size)); clear hr hb S1))
          obtain ⟨_, hb6, _⟩ := boxes1 (Below.refl (w5.alloc (.cells #[.int .i64 0, .string ⟨#[]⟩, .int .i64 0, .int .i64 0, .int .i64 0] 26)).heap.size (w5.alloc (.cells #[.int .i64 0, .string ⟨#[]⟩, .int .i64 0, .int .i64 0, .int .i64 0] 26)))
          have U1 := (R1.out.below hb6).more hb6.size
          have U2 := (R2.out.below hb6).more hb6.size
          have B6 := Lib.hid (B5.out.trans (hb6.mono B5.out.size))
          generalize w5.alloc (.cells #[.int .i64 0, .string ⟨#[]⟩, .int .i64 0, .int .i64 0, .int .i64 0] 26) = w6 at *
          have SM2 := Lib.hid (SM.out w6 _ _ U1 U2)
          clear hb6 U1 U2 SM
          go_wp2_with (go_at_call 10; (with_reducible refine (SM2.out).mono ?_); rintro e w7 ⟨rfl, hb⟩; have B7 := Lib.hid (B6.out.trans (hb.mono B6.out.size)); clear hb)
          go_ret
          exact ⟨rfl, B7.out⟩
  · have hner : (er != 0) = true := by rw [bne_iff_ne]; exact her
    clear her
    go_wp2_with fail
    go_ret
    exact ⟨rfl, B4.out⟩
end Go.Proofs.Ythdkkdgjcfjinaa.tokGaps
