/- For any two texts the law TreeSame returns true, and what was in memory is as it was. Condition: the library's variable MaxLen holds some number. -/
import Derived.Test.YtbcpkhegmbdifaaGreatU24
import Derived.Test.YtbcpkhegmbdifaaGreatU25
import Derived.Test.YtbcpkhegmbdifaaGreatU28
namespace Go.Proofs.YtbcpkhegmbdifaaGreat.treeSame
open Go.ChangeShapes Go.WideShapes Go.ChangeAt Go.RowKit Go.Proofs.YtbcpkhegmbdifaaGreat Go.Proofs.YtbcpkhegmbdifaaGreat.k Go.Proofs.YtbcpkhegmbdifaaGreat.rr Go.Proofs.YtbcpkhegmbdifaaGreat.tk Go.Proofs.YtbcpkhegmbdifaaGreat.tr
set_option linter.unusedVariables false

theorem ext_list (t : ByteArray) (a b : Nat) : (t.extract a b).data.toList = (dr t a).take (b - a) := by rw [tk.extract_dr]
theorem extract_size (s : ByteArray) (n : Nat) : (s.extract 0 n).size ≤ n := by
  rw [← size_len, ext_list, List.length_take]
  omega
set_option maxRecDepth 100000 in
set_option maxHeartbeats 8000000 in
theorem walk (s s' : ByteArray) (w : World) (hs : s.size ≤ maxLen) (hs' : s'.size ≤ maxLen) (hM : MaxL w) :
    Calls Tryz.prog 3 #[.string s, .string s'] w fun e w' => e = .returned (.bool true) ∧ Below w.heap.size w w' := by
  have HK := Lib.hid (tr.awake_any w hM)
  have MX := Lib.hid hM
  clear hM
  have ht : (s.extract 0 (min (s.size : Int) 1500).toNat).size ≤ 1500 := Nat.le_trans (extract_size _ _) (by omega)
  have hs2 : (s.size : Int) ≤ 9223372036854775807 := by unfold maxLen at hs; omega
  have ht' : (s'.extract 0 (min (s'.size : Int) 1500).toNat).size ≤ 1500 := Nat.le_trans (extract_size _ _) (by omega)
  have hs2' : (s'.size : Int) ≤ 9223372036854775807 := by unfold maxLen at hs'; omega
  clear hs hs'
  go_enter Tryz.func3, Tryz.ntmps3
  go_upto_region 3 with (go_at_call 4; ((with_reducible refine (HK.out).mono ?_); rintro e w2 ⟨rfl, hb⟩; have HB := Lib.hid hb; clear hb HK))
  go_quiet (fail)
  rename_i nq
  have hb0 := below_drawn HB.out nq
  generalize s.extract 0 (min (s.size : Int) 1500).toNat = t at *
  generalize s'.extract 0 (min (s'.size : Int) 1500).toNat = t' at *
  generalize w2.drewN nq = w0 at *
  have HB := Lib.hid hb0
  clear hs2 hs2' hb0
  have PX := Lib.hid fun W (hMW : MaxL W) => parse_any t (by omega) W hMW
  have PY := Lib.hid fun W (hMW : MaxL W) => parse_any t' (by omega) W hMW
  unfold GotG at PX PY
  obtain ⟨⟨P, er, ⟨pk, pt, pn, pl, pc⟩⟩, hpx⟩ : ∃ R, parse t.data.toList = R := ⟨_, rfl⟩
  obtain ⟨⟨Q, f, ⟨qk, qt, qn, ql, qc⟩⟩, hqx⟩ : ∃ R, parse t'.data.toList = R := ⟨_, rfl⟩
  rw [hpx] at PX
  rw [hqx] at PY
  simp only at PX PY
  rw [show (tC ⟨pk, pt, pn, pl, pc⟩).toArray = #[.int .i64 pk, .string ⟨pt.toArray⟩, .int .i64 pn, .int .i64 pl, .int .i64 pc] from rfl] at PX
  rw [show (tC ⟨qk, qt, qn, ql, qc⟩).toArray = #[.int .i64 qk, .string ⟨qt.toArray⟩, .int .i64 qn, .int .i64 ql, .int .i64 qc] from rfl] at PY
  obtain ⟨S, hS⟩ : ∃ S, pgSame P Q = S := ⟨_, rfl⟩
  have hS' : pgSame Q P = S := by rw [pgSame_symm]; exact hS
  have SPQ := Lib.hid fun h h' W hp hq => same_any P Q h h' W hp hq
  have SQP := Lib.hid fun h h' W hp hq => same_any Q P h h' W hp hq
  have SPP := Lib.hid fun h h' W hp hq => same_any P P h h' W hp hq
  have RPQ := Lib.hid fun h h' W hp hq => rsame_any P Q h h' W hp hq
  rw [hS] at SPQ RPQ
  rw [hS'] at SQP
  rw [pgSame_refl] at SPP
  clear hpx hqx hS hS' ht ht'
  go_wp2_with (go_at_call 5; fail)
  with_reducible refine (PX.out _ (MX.out.below HB.out)).mono ?_
  rintro e w0a ⟨⟨n1, ⟨VA1, vl1, vc1⟩, ⟨SA1, sl1, sc1⟩⟩, rfl, hp, hb⟩
  have HBn := Lib.hid (HB.out.trans (hb.mono HB.out.size))
  clear HB
  have HB := Lib.hid HBn.out
  clear HBn
  simp only [gC, sv, Sl.v]
  clear hb
  go_upto_region 5 with (fail)
  obtain ⟨x4, _, hb4, hz4⟩ := boxes2 (Below.refl ((w0a.alloc (.cells #[.string ⟨n1.toArray⟩, .slice VA1 vl1 vc1, .slice SA1 sl1 sc1] 26)).alloc (.cells #[.int .i64 pk, .string ⟨pt.toArray⟩, .int .i64 pn, .int .i64 pl, .int .i64 pc] 29)).heap.size ((w0a.alloc (.cells #[.string ⟨n1.toArray⟩, .slice VA1 vl1 vc1, .slice SA1 sl1 sc1] 26)).alloc (.cells #[.int .i64 pk, .string ⟨pt.toArray⟩, .int .i64 pn, .int .i64 pl, .int .i64 pc] 29)))
  have hlt : w0a.heap.size < ((w0a.alloc (.cells #[.string ⟨n1.toArray⟩, .slice VA1 vl1 vc1, .slice SA1 sl1 sc1] 26)).alloc (.cells #[.int .i64 pk, .string ⟨pt.toArray⟩, .int .i64 pn, .int .i64 pl, .int .i64 pc] 29)).heap.size := by simp; omega
  have hp2 := hp.below hb4 hb4.size
  clear hp
  have HB4 := Lib.hid (HB.out.trans (hb4.mono HB.out.size))
  clear HB
  have HB := Lib.hid HB4.out
  clear HB4
  clear hb4 hz4
  generalize ((w0a.alloc (.cells #[.string ⟨n1.toArray⟩, .slice VA1 vl1 vc1, .slice SA1 sl1 sc1] 26)).alloc (.cells #[.int .i64 pk, .string ⟨pt.toArray⟩, .int .i64 pn, .int .i64 pl, .int .i64 pc] 29)) = w1 at *
  generalize w0a.heap.size = w1g at *
  have Pw1 := Lib.hid hp2
  have Xw1 := Lib.hid x4
  have Xw1lt := Lib.hid hlt
  clear hp2 x4 hlt
  go_wp2_with (go_at_call 5; fail)
  with_reducible refine (PY.out _ (MX.out.below HB.out)).mono ?_
  rintro e w1a ⟨⟨n3, ⟨VA3, vl3, vc3⟩, ⟨SA3, sl3, sc3⟩⟩, rfl, hp, hb⟩
  have HBn := Lib.hid (HB.out.trans (hb.mono HB.out.size))
  clear HB
  have HB := Lib.hid HBn.out
  clear HBn
  have n1_ := Lib.hid (Pw1.out.below hb hb.size)
  have n2_ := Lib.hid (Xw1.out.below hb Xw1lt.out)
  have n3_ := Lib.hid (Nat.lt_of_lt_of_le Xw1lt.out hb.size)
  clear Pw1 Xw1 Xw1lt
  have Pw1 := Lib.hid n1_.out
  have Xw1 := Lib.hid n2_.out
  have Xw1lt := Lib.hid n3_.out
  clear n1_ n2_ n3_
  simp only [gC, sv, Sl.v]
  clear hb
  go_upto_region 6 with (fail)
  obtain ⟨x4, _, hb4, hz4⟩ := boxes2 (Below.refl ((w1a.alloc (.cells #[.string ⟨n3.toArray⟩, .slice VA3 vl3 vc3, .slice SA3 sl3 sc3] 26)).alloc (.cells #[.int .i64 qk, .string ⟨qt.toArray⟩, .int .i64 qn, .int .i64 ql, .int .i64 qc] 29)).heap.size ((w1a.alloc (.cells #[.string ⟨n3.toArray⟩, .slice VA3 vl3 vc3, .slice SA3 sl3 sc3] 26)).alloc (.cells #[.int .i64 qk, .string ⟨qt.toArray⟩, .int .i64 qn, .int .i64 ql, .int .i64 qc] 29)))
  have hlt : w1a.heap.size < ((w1a.alloc (.cells #[.string ⟨n3.toArray⟩, .slice VA3 vl3 vc3, .slice SA3 sl3 sc3] 26)).alloc (.cells #[.int .i64 qk, .string ⟨qt.toArray⟩, .int .i64 qn, .int .i64 ql, .int .i64 qc] 29)).heap.size := by simp; omega
  have hp2 := hp.below hb4 hb4.size
  clear hp
  have HB4 := Lib.hid (HB.out.trans (hb4.mono HB.out.size))
  clear HB
  have HB := Lib.hid HB4.out
  clear HB4
  have n1_ := Lib.hid (Pw1.out.below hb4 hb4.size)
  have n2_ := Lib.hid (Xw1.out.below hb4 Xw1lt.out)
  have n3_ := Lib.hid (Nat.lt_of_lt_of_le Xw1lt.out hb4.size)
  clear Pw1 Xw1 Xw1lt
  have Pw1 := Lib.hid n1_.out
  have Xw1 := Lib.hid n2_.out
  have Xw1lt := Lib.hid n3_.out
  clear n1_ n2_ n3_
  clear hb4 hz4
  generalize ((w1a.alloc (.cells #[.string ⟨n3.toArray⟩, .slice VA3 vl3 vc3, .slice SA3 sl3 sc3] 26)).alloc (.cells #[.int .i64 qk, .string ⟨qt.toArray⟩, .int .i64 qn, .int .i64 ql, .int .i64 qc] 29)) = w3 at *
  generalize w1a.heap.size = w3g at *
  have Pw3 := Lib.hid hp2
  have Xw3 := Lib.hid x4
  have Xw3lt := Lib.hid hlt
  clear hp2 x4 hlt
  go_wp2_with (go_at_call 5; fail)
  with_reducible refine (PX.out _ (MX.out.below HB.out)).mono ?_
  rintro e w3a ⟨⟨n6, ⟨VA6, vl6, vc6⟩, ⟨SA6, sl6, sc6⟩⟩, rfl, hp, hb⟩
  have HBn := Lib.hid (HB.out.trans (hb.mono HB.out.size))
  clear HB
  have HB := Lib.hid HBn.out
  clear HBn
  have n1_ := Lib.hid (Pw1.out.below hb hb.size)
  have n2_ := Lib.hid (Xw1.out.below hb Xw1lt.out)
  have n3_ := Lib.hid (Nat.lt_of_lt_of_le Xw1lt.out hb.size)
  clear Pw1 Xw1 Xw1lt
  have Pw1 := Lib.hid n1_.out
  have Xw1 := Lib.hid n2_.out
  have Xw1lt := Lib.hid n3_.out
  clear n1_ n2_ n3_
  have n1_ := Lib.hid (Pw3.out.below hb hb.size)
  have n2_ := Lib.hid (Xw3.out.below hb Xw3lt.out)
  have n3_ := Lib.hid (Nat.lt_of_lt_of_le Xw3lt.out hb.size)
  clear Pw3 Xw3 Xw3lt
  have Pw3 := Lib.hid n1_.out
  have Xw3 := Lib.hid n2_.out
  have Xw3lt := Lib.hid n3_.out
  clear n1_ n2_ n3_
  simp only [gC, sv, Sl.v]
  clear hb
  go_upto_region 7 with (fail)
  obtain ⟨x4, _, hb4, hz4⟩ := boxes2 (Below.refl ((w3a.alloc (.cells #[.string ⟨n6.toArray⟩, .slice VA6 vl6 vc6, .slice SA6 sl6 sc6] 26)).alloc (.cells #[.int .i64 pk, .string ⟨pt.toArray⟩, .int .i64 pn, .int .i64 pl, .int .i64 pc] 29)).heap.size ((w3a.alloc (.cells #[.string ⟨n6.toArray⟩, .slice VA6 vl6 vc6, .slice SA6 sl6 sc6] 26)).alloc (.cells #[.int .i64 pk, .string ⟨pt.toArray⟩, .int .i64 pn, .int .i64 pl, .int .i64 pc] 29)))
  have hlt : w3a.heap.size < ((w3a.alloc (.cells #[.string ⟨n6.toArray⟩, .slice VA6 vl6 vc6, .slice SA6 sl6 sc6] 26)).alloc (.cells #[.int .i64 pk, .string ⟨pt.toArray⟩, .int .i64 pn, .int .i64 pl, .int .i64 pc] 29)).heap.size := by simp; omega
  have hp2 := hp.below hb4 hb4.size
  clear hp
  have HB4 := Lib.hid (HB.out.trans (hb4.mono HB.out.size))
  clear HB
  have HB := Lib.hid HB4.out
  clear HB4
  have n1_ := Lib.hid (Pw1.out.below hb4 hb4.size)
  have n2_ := Lib.hid (Xw1.out.below hb4 Xw1lt.out)
  have n3_ := Lib.hid (Nat.lt_of_lt_of_le Xw1lt.out hb4.size)
  clear Pw1 Xw1 Xw1lt
  have Pw1 := Lib.hid n1_.out
  have Xw1 := Lib.hid n2_.out
  have Xw1lt := Lib.hid n3_.out
  clear n1_ n2_ n3_
  have n1_ := Lib.hid (Pw3.out.below hb4 hb4.size)
  have n2_ := Lib.hid (Xw3.out.below hb4 Xw3lt.out)
  have n3_ := Lib.hid (Nat.lt_of_lt_of_le Xw3lt.out hb4.size)
  clear Pw3 Xw3 Xw3lt
  have Pw3 := Lib.hid n1_.out
  have Xw3 := Lib.hid n2_.out
  have Xw3lt := Lib.hid n3_.out
  clear n1_ n2_ n3_
  clear hb4 hz4
  generalize ((w3a.alloc (.cells #[.string ⟨n6.toArray⟩, .slice VA6 vl6 vc6, .slice SA6 sl6 sc6] 26)).alloc (.cells #[.int .i64 pk, .string ⟨pt.toArray⟩, .int .i64 pn, .int .i64 pl, .int .i64 pc] 29)) = w6 at *
  generalize w3a.heap.size = w6g at *
  have Pw6 := Lib.hid hp2
  have Xw6 := Lib.hid x4
  have Xw6lt := Lib.hid hlt
  clear hp2 x4 hlt
  have C1 := Lib.hid fun W (hW : Below w6.heap.size w6 W) => SPQ.out ⟨n1, ⟨VA1, vl1, vc1⟩, ⟨SA1, sl1, sc1⟩⟩ ⟨n3, ⟨VA3, vl3, vc3⟩, ⟨SA3, sl3, sc3⟩⟩ W (Pw1.out.below hW hW.size) (Pw3.out.below hW hW.size)
  simp only [gC, sv, Sl.v] at C1
  have C2 := Lib.hid fun W (hW : Below w6.heap.size w6 W) => RPQ.out ⟨n1, ⟨VA1, vl1, vc1⟩, ⟨SA1, sl1, sc1⟩⟩ ⟨n3, ⟨VA3, vl3, vc3⟩, ⟨SA3, sl3, sc3⟩⟩ W (Pw1.out.below hW hW.size) (Pw3.out.below hW hW.size)
  simp only [gC, sv, Sl.v] at C2
  have C3 := Lib.hid fun W (hW : Below w6.heap.size w6 W) => SPP.out ⟨n1, ⟨VA1, vl1, vc1⟩, ⟨SA1, sl1, sc1⟩⟩ ⟨n6, ⟨VA6, vl6, vc6⟩, ⟨SA6, sl6, sc6⟩⟩ W (Pw1.out.below hW hW.size) (Pw6.out.below hW hW.size)
  simp only [gC, sv, Sl.v] at C3
  have C4 := Lib.hid fun W (hW : Below w6.heap.size w6 W) => SQP.out ⟨n3, ⟨VA3, vl3, vc3⟩, ⟨SA3, sl3, sc3⟩⟩ ⟨n1, ⟨VA1, vl1, vc1⟩, ⟨SA1, sl1, sc1⟩⟩ W (Pw3.out.below hW hW.size) (Pw1.out.below hW hW.size)
  simp only [gC, sv, Sl.v] at C4
  have A1 := Xw1lt.out
  have A3 := Xw3lt.out
  have A6 := Xw6lt.out
  have ⟨a10, _, a11, _, a12, _, _⟩ := Xw1.out
  have ⟨a30, _, a31, _, a32, _, _⟩ := Xw3.out
  have ⟨a60, _, a61, _, a62, _, _⟩ := Xw6.out
  clear SPQ RPQ SPP SQP PX PY Pw1 Pw3 Pw6 Xw1 Xw3 Xw6 MX
  have HB6 := HB.out.size
  refine wp_region_T (by kernel_rfl) (fun w' => Below w6.heap.size w6 w') [] (Below.refl _ _).drew (fun hHeld => ?_)
  refine wpAnyT_take (i := 0) (v := ?_) rfl (by kernel_rfl) (by kernel_rfl) (by kernel_rfl) (fun _ _ _ h => h) (Or.inl ⟨by rfl, ?_⟩) (by assumption) ?_
  rotate_left 1
  · intro w hSw; have s0 := (hSw.cell (p := ⟨w1g, 0, none⟩) A1).trans a10; have s1 := (hSw.cell (p := ⟨w1g, 1, none⟩) A1).trans a11; have s2 := (hSw.cell (p := ⟨w1g, 2, none⟩) A1).trans a12; clear hSw; go_simp <;> (with_reducible rfl)
  try simp only [Act.put, List.setIfInBounds_toArray, List.set_cons_zero, List.set_cons_succ, List.getElem_toArray, List.getElem_cons_zero]
  refine wpAnyT_take (i := 1) (v := ?_) rfl (by kernel_rfl) (by kernel_rfl) (by kernel_rfl) (fun _ _ _ h => h) (Or.inl ⟨by rfl, ?_⟩) (by assumption) ?_
  rotate_left 1
  · intro w hSw; have s0 := (hSw.cell (p := ⟨w3g, 0, none⟩) A3).trans a30; have s1 := (hSw.cell (p := ⟨w3g, 1, none⟩) A3).trans a31; have s2 := (hSw.cell (p := ⟨w3g, 2, none⟩) A3).trans a32; clear hSw; go_simp <;> (with_reducible rfl)
  try simp only [Act.put, List.setIfInBounds_toArray, List.set_cons_zero, List.set_cons_succ, List.getElem_toArray, List.getElem_cons_succ, List.getElem_cons_zero]
  refine wpAnyT_take (i := 3) (v := ?_) rfl (by kernel_rfl) (by kernel_rfl) (by kernel_rfl) (fun _ _ _ h => h) (Or.inl ⟨by rfl, ?_⟩) (by assumption) ?_
  rotate_left 1
  · intro w hSw; have s0 := (hSw.cell (p := ⟨w1g, 0, none⟩) A1).trans a10; have s1 := (hSw.cell (p := ⟨w1g, 1, none⟩) A1).trans a11; have s2 := (hSw.cell (p := ⟨w1g, 2, none⟩) A1).trans a12; clear hSw; go_simp <;> (with_reducible rfl)
  try simp only [Act.put, List.setIfInBounds_toArray, List.set_cons_zero, List.set_cons_succ, List.getElem_toArray, List.getElem_cons_succ, List.getElem_cons_zero]
  refine wpAnyT_take (i := 4) (v := ?_) rfl (by kernel_rfl) (by kernel_rfl) (by kernel_rfl) (fun _ _ _ h => h) (Or.inl ⟨by rfl, ?_⟩) (by assumption) ?_
  rotate_left 1
  · intro w hSw; have s0 := (hSw.cell (p := ⟨w3g, 0, none⟩) A3).trans a30; have s1 := (hSw.cell (p := ⟨w3g, 1, none⟩) A3).trans a31; have s2 := (hSw.cell (p := ⟨w3g, 2, none⟩) A3).trans a32; clear hSw; go_simp <;> (with_reducible rfl)
  try simp only [Act.put, List.setIfInBounds_toArray, List.set_cons_zero, List.set_cons_succ, List.getElem_toArray, List.getElem_cons_succ, List.getElem_cons_zero]
  refine wpAnyT_ready (rs := [2]) (by kernel_rfl) (by simp) ?_
  refine AllReadyT.cons rfl (fun K hK => ?_) AllReadyT.nil
  go_simp
  (go_at_call 6; (refine (C1.out _ hHeld).mono ?_); rintro e v1 ⟨rfl, hb⟩)
  have hT := hHeld.trans (hb.mono hHeld.size)
  clear hb hHeld
  go_wp2_with fail
  refine hK.out _ _ hT (fun hHeld => ?_)
  clear hK K hT
  try simp only [Act.put, List.setIfInBounds_toArray, List.set_cons_zero, List.set_cons_succ, List.getElem_toArray, List.getElem_cons_succ, List.getElem_cons_zero]
  refine wpAnyT_ready (rs := [5]) (by kernel_rfl) (by simp) ?_
  refine AllReadyT.cons rfl (fun K hK => ?_) AllReadyT.nil
  go_simp
  (go_at_call 7; (refine (C2.out _ hHeld).mono ?_); rintro e v2 ⟨rfl, hb⟩)
  have hT := hHeld.trans (hb.mono hHeld.size)
  clear hb hHeld
  go_wp2_with fail
  refine hK.out _ _ hT (fun hHeld => ?_)
  clear hK K hT
  try simp only [Act.put, List.setIfInBounds_toArray, List.set_cons_zero, List.set_cons_succ, List.getElem_toArray, List.getElem_cons_succ, List.getElem_cons_zero]
  refine wpAnyT_take (i := 6) (v := ?_) rfl (by kernel_rfl) (by kernel_rfl) (by kernel_rfl) (fun _ _ _ h => h) (Or.inl ⟨by rfl, ?_⟩) (by assumption) ?_
  rotate_left 1
  · intro w hSw; clear hSw; go_simp <;> (with_reducible rfl)
  try simp only [Act.put, List.setIfInBounds_toArray, List.set_cons_zero, List.set_cons_succ, List.getElem_toArray, List.getElem_cons_succ, List.getElem_cons_zero]
  refine wpAnyT_take (i := 7) (v := ?_) rfl (by kernel_rfl) (by kernel_rfl) (by kernel_rfl) (fun _ _ _ h => h) (Or.inl ⟨by rfl, ?_⟩) (by assumption) ?_
  rotate_left 1
  · intro w hSw; clear hSw; go_simp <;> (with_reducible rfl)
  try simp only [Act.put, List.setIfInBounds_toArray, List.set_cons_zero, List.set_cons_succ, List.getElem_toArray, List.getElem_cons_succ, List.getElem_cons_zero]
  refine wpAnyT_take (i := 8) (v := ?_) rfl (by kernel_rfl) (by kernel_rfl) (by kernel_rfl) (fun _ _ _ h => h) (Or.inl ⟨by rfl, ?_⟩) (by assumption) ?_
  rotate_left 1
  · intro w hSw; have s0 := (hSw.cell (p := ⟨w1g, 0, none⟩) A1).trans a10; have s1 := (hSw.cell (p := ⟨w1g, 1, none⟩) A1).trans a11; have s2 := (hSw.cell (p := ⟨w1g, 2, none⟩) A1).trans a12; clear hSw; go_simp <;> (with_reducible rfl)
  try simp only [Act.put, List.setIfInBounds_toArray, List.set_cons_zero, List.set_cons_succ, List.getElem_toArray, List.getElem_cons_succ, List.getElem_cons_zero]
  refine wpAnyT_take (i := 9) (v := ?_) rfl (by kernel_rfl) (by kernel_rfl) (by kernel_rfl) (fun _ _ _ h => h) (Or.inl ⟨by rfl, ?_⟩) (by assumption) ?_
  rotate_left 1
  · intro w hSw; have s0 := (hSw.cell (p := ⟨w6g, 0, none⟩) A6).trans a60; have s1 := (hSw.cell (p := ⟨w6g, 1, none⟩) A6).trans a61; have s2 := (hSw.cell (p := ⟨w6g, 2, none⟩) A6).trans a62; clear hSw; go_simp <;> (with_reducible rfl)
  try simp only [Act.put, List.setIfInBounds_toArray, List.set_cons_zero, List.set_cons_succ, List.getElem_toArray, List.getElem_cons_succ, List.getElem_cons_zero]
  refine wpAnyT_ready (rs := [10]) (by kernel_rfl) (by simp) ?_
  refine AllReadyT.cons rfl (fun K hK => ?_) AllReadyT.nil
  go_simp
  (go_at_call 6; (refine (C3.out _ hHeld).mono ?_); rintro e v3 ⟨rfl, hb⟩)
  have hT := hHeld.trans (hb.mono hHeld.size)
  clear hb hHeld
  go_wp2_with fail
  refine hK.out _ _ hT (fun hHeld => ?_)
  clear hK K hT
  try simp only [Act.put, List.setIfInBounds_toArray, List.set_cons_zero, List.set_cons_succ, List.getElem_toArray, List.getElem_cons_succ, List.getElem_cons_zero]
  refine wpAnyT_take (i := 11) (v := ?_) rfl (by kernel_rfl) (by kernel_rfl) (by kernel_rfl) (fun _ _ _ h => h) (Or.inl ⟨by rfl, ?_⟩) (by assumption) ?_
  rotate_left 1
  · intro w hSw; clear hSw; go_simp <;> (with_reducible rfl)
  try simp only [Act.put, List.setIfInBounds_toArray, List.set_cons_zero, List.set_cons_succ, List.getElem_toArray, List.getElem_cons_succ, List.getElem_cons_zero]
  refine wpAnyT_take (i := 12) (v := ?_) rfl (by kernel_rfl) (by kernel_rfl) (by kernel_rfl) (fun _ _ _ h => h) (Or.inl ⟨by rfl, ?_⟩) (by assumption) ?_
  rotate_left 1
  · intro w hSw; clear hSw; go_simp <;> (with_reducible rfl)
  try simp only [Act.put, List.setIfInBounds_toArray, List.set_cons_zero, List.set_cons_succ, List.getElem_toArray, List.getElem_cons_succ, List.getElem_cons_zero]
  refine wpAnyT_take (i := 13) (v := ?_) rfl (by kernel_rfl) (by kernel_rfl) (by kernel_rfl) (fun _ _ _ h => h) (Or.inl ⟨by rfl, ?_⟩) (by assumption) ?_
  rotate_left 1
  · intro w hSw; have s0 := (hSw.cell (p := ⟨w3g, 0, none⟩) A3).trans a30; have s1 := (hSw.cell (p := ⟨w3g, 1, none⟩) A3).trans a31; have s2 := (hSw.cell (p := ⟨w3g, 2, none⟩) A3).trans a32; clear hSw; go_simp <;> (with_reducible rfl)
  try simp only [Act.put, List.setIfInBounds_toArray, List.set_cons_zero, List.set_cons_succ, List.getElem_toArray, List.getElem_cons_succ, List.getElem_cons_zero]
  refine wpAnyT_take (i := 14) (v := ?_) rfl (by kernel_rfl) (by kernel_rfl) (by kernel_rfl) (fun _ _ _ h => h) (Or.inl ⟨by rfl, ?_⟩) (by assumption) ?_
  rotate_left 1
  · intro w hSw; have s0 := (hSw.cell (p := ⟨w1g, 0, none⟩) A1).trans a10; have s1 := (hSw.cell (p := ⟨w1g, 1, none⟩) A1).trans a11; have s2 := (hSw.cell (p := ⟨w1g, 2, none⟩) A1).trans a12; clear hSw; go_simp <;> (with_reducible rfl)
  try simp only [Act.put, List.setIfInBounds_toArray, List.set_cons_zero, List.set_cons_succ, List.getElem_toArray, List.getElem_cons_succ, List.getElem_cons_zero]
  refine wpAnyT_take (i := 16) (v := ?_) rfl (by kernel_rfl) (by kernel_rfl) (by kernel_rfl) (fun _ _ _ h => h) (Or.inl ⟨by rfl, ?_⟩) (by assumption) ?_
  rotate_left 1
  · intro w hSw; have s0 := (hSw.cell (p := ⟨w1g, 0, none⟩) A1).trans a10; have s1 := (hSw.cell (p := ⟨w1g, 1, none⟩) A1).trans a11; have s2 := (hSw.cell (p := ⟨w1g, 2, none⟩) A1).trans a12; clear hSw; go_simp <;> (with_reducible rfl)
  try simp only [Act.put, List.setIfInBounds_toArray, List.set_cons_zero, List.set_cons_succ, List.getElem_toArray, List.getElem_cons_succ, List.getElem_cons_zero]
  refine wpAnyT_take (i := 17) (v := ?_) rfl (by kernel_rfl) (by kernel_rfl) (by kernel_rfl) (fun _ _ _ h => h) (Or.inl ⟨by rfl, ?_⟩) (by assumption) ?_
  rotate_left 1
  · intro w hSw; have s0 := (hSw.cell (p := ⟨w3g, 0, none⟩) A3).trans a30; have s1 := (hSw.cell (p := ⟨w3g, 1, none⟩) A3).trans a31; have s2 := (hSw.cell (p := ⟨w3g, 2, none⟩) A3).trans a32; clear hSw; go_simp <;> (with_reducible rfl)
  try simp only [Act.put, List.setIfInBounds_toArray, List.set_cons_zero, List.set_cons_succ, List.getElem_toArray, List.getElem_cons_succ, List.getElem_cons_zero]
  refine wpAnyT_ready (rs := [15]) (by kernel_rfl) (by simp) ?_
  refine AllReadyT.cons rfl (fun K hK => ?_) AllReadyT.nil
  go_simp
  (go_at_call 6; (refine (C4.out _ hHeld).mono ?_); rintro e v4 ⟨rfl, hb⟩)
  have hT := hHeld.trans (hb.mono hHeld.size)
  clear hb hHeld
  go_wp2_with fail
  refine hK.out _ _ hT (fun hHeld => ?_)
  clear hK K hT
  try simp only [Act.put, List.setIfInBounds_toArray, List.set_cons_zero, List.set_cons_succ, List.getElem_toArray, List.getElem_cons_succ, List.getElem_cons_zero]
  refine wpAnyT_ready (rs := [18]) (by kernel_rfl) (by simp) ?_
  refine AllReadyT.cons rfl (fun K hK => ?_) AllReadyT.nil
  go_simp
  (go_at_call 6; (refine (C1.out _ hHeld).mono ?_); rintro e v5 ⟨rfl, hb⟩)
  have hT := hHeld.trans (hb.mono hHeld.size)
  clear hb hHeld
  go_wp2_with fail
  refine hK.out _ _ hT (fun hHeld => ?_)
  clear hK K hT
  try simp only [Act.put, List.setIfInBounds_toArray, List.set_cons_zero, List.set_cons_succ, List.getElem_toArray, List.getElem_cons_succ, List.getElem_cons_zero]
  refine wpAnyT_take (i := 19) (v := ?_) rfl (by kernel_rfl) (by kernel_rfl) (by kernel_rfl) (fun _ _ _ h => h) (Or.inl ⟨by rfl, ?_⟩) (by assumption) ?_
  rotate_left 1
  · intro w hSw; clear hSw; go_simp <;> (with_reducible rfl)
  try simp only [Act.put, List.setIfInBounds_toArray, List.set_cons_zero, List.set_cons_succ, List.getElem_toArray, List.getElem_cons_succ, List.getElem_cons_zero]
  refine wpAnyT_take (i := 20) (v := ?_) rfl (by kernel_rfl) (by kernel_rfl) (by kernel_rfl) (fun _ _ _ h => h) (Or.inl ⟨by rfl, ?_⟩) (by assumption) ?_
  rotate_left 1
  · intro w hSw; clear hSw; go_simp <;> (with_reducible rfl)
  try simp only [Act.put, List.setIfInBounds_toArray, List.set_cons_zero, List.set_cons_succ, List.getElem_toArray, List.getElem_cons_succ, List.getElem_cons_zero]
  refine wpAnyT_ready (rs := [21]) (by kernel_rfl) (by simp) ?_
  refine AllReadyT.cons rfl (fun K hK => ?_) AllReadyT.nil
  go_simp
  refine hK.out _ _ hHeld (fun hHeld => ?_)
  clear hK K
  try simp only [Act.put, List.setIfInBounds_toArray, List.set_cons_zero, List.set_cons_succ, List.getElem_toArray, List.getElem_cons_succ, List.getElem_cons_zero]
  refine wpAnyT_done (by kernel_rfl) ?_ _
  have BB := Lib.hid (HB.out.trans (hHeld.mono HB6))
  clear hHeld C1 C2 C3 C4
  go_wp2_with fail
  go_ret
  exact ⟨ret_bool (by cases S <;> rfl), BB.out⟩
end Go.Proofs.YtbcpkhegmbdifaaGreat.treeSame
