/- The walk of the law DriveSteps: any limit, any count, any drive, any bytes, whether it is wanted and cleared, any place: it returns true, and what was in memory is as it was. -/
import Derived.Test.YtdfgjfojneoljaaDsYR
import Derived.Test.YtdfgjfojneoljaaDsYB
import Derived.Test.YtdfgjfojneoljaaDsNR
import Derived.Test.YtdfgjfojneoljaaDsNB
import Derived.Test.YtdfgjfojneoljaaJRight
namespace Go.Proofs.Ytdfgjfojneoljaa.driveSteps
open Go.ChangeShapes Go.WideShapes Go.ChangeAt Go.RowKit Go.Proofs.Ytdfgjfojneoljaa.s Go.Proofs.Ytdfgjfojneoljaa.t Go.Proofs.Ytdfgjfojneoljaa.j Go.Proofs.Ytdfgjfojneoljaa
set_option linter.unusedVariables false

theorem told_so {d : D} {want clr : Bool} {p : Int} {W : World} {e : Ending} {w' : World} (h : TellPost d want clr p W e w') : ToldSo (cellsD (tellD d)) (toldB d want clr p) W e w' := by
  obtain ⟨A, cap, he, hB, h1, h2, hb, _⟩ := h
  exact ⟨A, cap, he, hB, h1, h2, hb⟩
theorem lost_right {d : D} (h : RightD d) : lostD d = (d.mis == d.lim) := by
  unfold lostD
  by_cases hm : d.mis = d.lim
  · rw [hm]
    simp
    exact .inr hm
  · rw [show (d.mis == d.lim) = false from by rw [beq_eq_false_iff_ne]; exact hm]
    exact decide_eq_false fun hl => hl.elim (fun h2 => h2 h) hm
theorem walk (a0 a1 : Int) (st lim mis last pc : Int) (pv : Bool) (po mc : Int) (mv : Bool) (mo hc : Int) (hv : Bool) (ho act : Int) (kn : Bool) (sq : Int) (a : Option Addr) (len cap : Nat) (zs : List Int) (want clr : Bool) (p : Int) (w : World) (w0 : (Lit.int .i64 a0).wf = true) (w1 : (Lit.int .i64 a1).wf = true) (u0 : (Lit.int .i64 st).wf = true) (u1 : (Lit.int .i64 lim).wf = true) (u2 : (Lit.int .i64 mis).wf = true) (u3 : (Lit.int .i64 last).wf = true) (u4 : (Lit.int .i64 pc).wf = true) (u6 : (Lit.int .i64 po).wf = true) (u7 : (Lit.int .i64 mc).wf = true) (u9 : (Lit.int .i64 mo).wf = true) (u10 : (Lit.int .i64 hc).wf = true) (u12 : (Lit.int .i64 ho).wf = true) (u13 : (Lit.int .i64 act).wf = true) (u15 : (Lit.int .i64 sq).wf = true) (w3 : IsRow .u8 w a len cap zs) (w6 : (Lit.int .i64 p).wf = true) :
    Calls Try.prog 3 #[.int .i64 a0, .int .i64 a1, .agg #[.int .i64 st, .int .i64 lim, .int .i64 mis, .int .i64 last, .int .i64 pc, .bool pv, .int .i64 po, .int .i64 mc, .bool mv, .int .i64 mo, .int .i64 hc, .bool hv, .int .i64 ho, .int .i64 act, .bool kn, .int .i64 sq], .slice a len cap, .bool want, .bool clr, .int .i64 p] w fun e w' => e = .returned (.bool true) ∧ Below w.heap.size w w' := by
  obtain ⟨l0, rfl, hB0, hcap0, hmax0, _, _⟩ := bytes_of w3
  obtain ⟨kb, e0, hn, hm, hK⟩ := cut_of l0 40 40 rfl hB0
  have hW : WideD ⟨st, lim, mis, last, pc, pv, po, mc, mv, mo, hc, hv, ho, act, kn, sq⟩ := ⟨wide u4, wide u7, wide u10⟩
  obtain ⟨D, hD⟩ : ∃ D : D, D = ⟨st, lim, mis, last, pc, pv, po, mc, mv, mo, hc, hv, ho, act, kn, sq⟩ := ⟨_, rfl⟩
  have eD : (.agg #[.int .i64 st, .int .i64 lim, .int .i64 mis, .int .i64 last, .int .i64 pc, .bool pv, .int .i64 po, .int .i64 mc, .bool mv, .int .i64 mo, .int .i64 hc, .bool hv, .int .i64 ho, .int .i64 act, .bool kn, .int .i64 sq] : Value) = dV D := by rw [hD]; rfl
  rw [← hD] at hW
  have hno : ¬ (1 ≤ a0 ∧ a0 ≤ 100 ∧ 1 ≤ a1 ∧ a1 ≤ 20) → a0 < 1 ∨ 100 < a0 ∨ a1 < 1 ∨ 20 < a1 := fun h => by omega
  have CRr := fun W => refright_any D hW W
  have CR := fun W => right_any D hW W
  have CL := fun W => lost_any D hW W
  by_cases hr : RightD D
  · rw [right_yes hr] at CRr CR
    rw [lost_right hr] at CL
    have CC := fun W (hb : Below w.heap.size w W) => come_ok D hr kb _ hn (by omega) w.heap.size a cap (by omega) hmax0 W (hK.below hb) hb.size
    have CCr := fun W (hb : Below w.heap.size w W) => refcome_any D hr kb _ hn (by omega) w.heap.size a cap (by omega) hmax0 W (hK.below hb) hb.size
    have CT := fun W => (tell_ok D hr want clr p W).mono fun _ _ h => told_so h
    have CTr := fun W => (reftell_any D hr want clr p W).mono fun _ _ h => told_so h
    subst hD
    by_cases hok : 1 ≤ a0 ∧ a0 ≤ 100 ∧ 1 ≤ a1 ∧ a1 ≤ 20
    · exact yesR a0 a1 st lim mis last pc pv po mc mv mo hc hv ho act kn sq a l0.length cap hcap0 (by unfold maxLen at hmax0; omega) want clr p w _ rfl (comeD ⟨st, lim, mis, last, pc, pv, po, mc, mv, mo, hc, hv, ho, act, kn, sq⟩ kb).st (comeD ⟨st, lim, mis, last, pc, pv, po, mc, mv, mo, hc, hv, ho, act, kn, sq⟩ kb).lim (comeD ⟨st, lim, mis, last, pc, pv, po, mc, mv, mo, hc, hv, ho, act, kn, sq⟩ kb).mis (comeD ⟨st, lim, mis, last, pc, pv, po, mc, mv, mo, hc, hv, ho, act, kn, sq⟩ kb).last (comeD ⟨st, lim, mis, last, pc, pv, po, mc, mv, mo, hc, hv, ho, act, kn, sq⟩ kb).pc (comeD ⟨st, lim, mis, last, pc, pv, po, mc, mv, mo, hc, hv, ho, act, kn, sq⟩ kb).pv (comeD ⟨st, lim, mis, last, pc, pv, po, mc, mv, mo, hc, hv, ho, act, kn, sq⟩ kb).po (comeD ⟨st, lim, mis, last, pc, pv, po, mc, mv, mo, hc, hv, ho, act, kn, sq⟩ kb).mc (comeD ⟨st, lim, mis, last, pc, pv, po, mc, mv, mo, hc, hv, ho, act, kn, sq⟩ kb).mv (comeD ⟨st, lim, mis, last, pc, pv, po, mc, mv, mo, hc, hv, ho, act, kn, sq⟩ kb).mo (comeD ⟨st, lim, mis, last, pc, pv, po, mc, mv, mo, hc, hv, ho, act, kn, sq⟩ kb).hc (comeD ⟨st, lim, mis, last, pc, pv, po, mc, mv, mo, hc, hv, ho, act, kn, sq⟩ kb).hv (comeD ⟨st, lim, mis, last, pc, pv, po, mc, mv, mo, hc, hv, ho, act, kn, sq⟩ kb).ho (comeD ⟨st, lim, mis, last, pc, pv, po, mc, mv, mo, hc, hv, ho, act, kn, sq⟩ kb).act (comeD ⟨st, lim, mis, last, pc, pv, po, mc, mv, mo, hc, hv, ho, act, kn, sq⟩ kb).kn (comeD ⟨st, lim, mis, last, pc, pv, po, mc, mv, mo, hc, hv, ho, act, kn, sq⟩ kb).sq (tellD ⟨st, lim, mis, last, pc, pv, po, mc, mv, mo, hc, hv, ho, act, kn, sq⟩).st (tellD ⟨st, lim, mis, last, pc, pv, po, mc, mv, mo, hc, hv, ho, act, kn, sq⟩).lim (tellD ⟨st, lim, mis, last, pc, pv, po, mc, mv, mo, hc, hv, ho, act, kn, sq⟩).mis (tellD ⟨st, lim, mis, last, pc, pv, po, mc, mv, mo, hc, hv, ho, act, kn, sq⟩).last (tellD ⟨st, lim, mis, last, pc, pv, po, mc, mv, mo, hc, hv, ho, act, kn, sq⟩).pc (tellD ⟨st, lim, mis, last, pc, pv, po, mc, mv, mo, hc, hv, ho, act, kn, sq⟩).pv (tellD ⟨st, lim, mis, last, pc, pv, po, mc, mv, mo, hc, hv, ho, act, kn, sq⟩).po (tellD ⟨st, lim, mis, last, pc, pv, po, mc, mv, mo, hc, hv, ho, act, kn, sq⟩).mc (tellD ⟨st, lim, mis, last, pc, pv, po, mc, mv, mo, hc, hv, ho, act, kn, sq⟩).mv (tellD ⟨st, lim, mis, last, pc, pv, po, mc, mv, mo, hc, hv, ho, act, kn, sq⟩).mo (tellD ⟨st, lim, mis, last, pc, pv, po, mc, mv, mo, hc, hv, ho, act, kn, sq⟩).hc (tellD ⟨st, lim, mis, last, pc, pv, po, mc, mv, mo, hc, hv, ho, act, kn, sq⟩).hv (tellD ⟨st, lim, mis, last, pc, pv, po, mc, mv, mo, hc, hv, ho, act, kn, sq⟩).ho (tellD ⟨st, lim, mis, last, pc, pv, po, mc, mv, mo, hc, hv, ho, act, kn, sq⟩).act (tellD ⟨st, lim, mis, last, pc, pv, po, mc, mv, mo, hc, hv, ho, act, kn, sq⟩).kn (tellD ⟨st, lim, mis, last, pc, pv, po, mc, mv, mo, hc, hv, ho, act, kn, sq⟩).sq (toldB ⟨st, lim, mis, last, pc, pv, po, mc, mv, mo, hc, hv, ho, act, kn, sq⟩ want clr p) (frame_length _ _ _ _) CC CCr CT CTr CR CRr CL hok
    · exact noR a0 a1 st lim mis last pc pv po mc mv mo hc hv ho act kn sq a l0.length cap hcap0 (by unfold maxLen at hmax0; omega) want clr p w _ rfl (comeD ⟨st, lim, mis, last, pc, pv, po, mc, mv, mo, hc, hv, ho, act, kn, sq⟩ kb).st (comeD ⟨st, lim, mis, last, pc, pv, po, mc, mv, mo, hc, hv, ho, act, kn, sq⟩ kb).lim (comeD ⟨st, lim, mis, last, pc, pv, po, mc, mv, mo, hc, hv, ho, act, kn, sq⟩ kb).mis (comeD ⟨st, lim, mis, last, pc, pv, po, mc, mv, mo, hc, hv, ho, act, kn, sq⟩ kb).last (comeD ⟨st, lim, mis, last, pc, pv, po, mc, mv, mo, hc, hv, ho, act, kn, sq⟩ kb).pc (comeD ⟨st, lim, mis, last, pc, pv, po, mc, mv, mo, hc, hv, ho, act, kn, sq⟩ kb).pv (comeD ⟨st, lim, mis, last, pc, pv, po, mc, mv, mo, hc, hv, ho, act, kn, sq⟩ kb).po (comeD ⟨st, lim, mis, last, pc, pv, po, mc, mv, mo, hc, hv, ho, act, kn, sq⟩ kb).mc (comeD ⟨st, lim, mis, last, pc, pv, po, mc, mv, mo, hc, hv, ho, act, kn, sq⟩ kb).mv (comeD ⟨st, lim, mis, last, pc, pv, po, mc, mv, mo, hc, hv, ho, act, kn, sq⟩ kb).mo (comeD ⟨st, lim, mis, last, pc, pv, po, mc, mv, mo, hc, hv, ho, act, kn, sq⟩ kb).hc (comeD ⟨st, lim, mis, last, pc, pv, po, mc, mv, mo, hc, hv, ho, act, kn, sq⟩ kb).hv (comeD ⟨st, lim, mis, last, pc, pv, po, mc, mv, mo, hc, hv, ho, act, kn, sq⟩ kb).ho (comeD ⟨st, lim, mis, last, pc, pv, po, mc, mv, mo, hc, hv, ho, act, kn, sq⟩ kb).act (comeD ⟨st, lim, mis, last, pc, pv, po, mc, mv, mo, hc, hv, ho, act, kn, sq⟩ kb).kn (comeD ⟨st, lim, mis, last, pc, pv, po, mc, mv, mo, hc, hv, ho, act, kn, sq⟩ kb).sq (tellD ⟨st, lim, mis, last, pc, pv, po, mc, mv, mo, hc, hv, ho, act, kn, sq⟩).st (tellD ⟨st, lim, mis, last, pc, pv, po, mc, mv, mo, hc, hv, ho, act, kn, sq⟩).lim (tellD ⟨st, lim, mis, last, pc, pv, po, mc, mv, mo, hc, hv, ho, act, kn, sq⟩).mis (tellD ⟨st, lim, mis, last, pc, pv, po, mc, mv, mo, hc, hv, ho, act, kn, sq⟩).last (tellD ⟨st, lim, mis, last, pc, pv, po, mc, mv, mo, hc, hv, ho, act, kn, sq⟩).pc (tellD ⟨st, lim, mis, last, pc, pv, po, mc, mv, mo, hc, hv, ho, act, kn, sq⟩).pv (tellD ⟨st, lim, mis, last, pc, pv, po, mc, mv, mo, hc, hv, ho, act, kn, sq⟩).po (tellD ⟨st, lim, mis, last, pc, pv, po, mc, mv, mo, hc, hv, ho, act, kn, sq⟩).mc (tellD ⟨st, lim, mis, last, pc, pv, po, mc, mv, mo, hc, hv, ho, act, kn, sq⟩).mv (tellD ⟨st, lim, mis, last, pc, pv, po, mc, mv, mo, hc, hv, ho, act, kn, sq⟩).mo (tellD ⟨st, lim, mis, last, pc, pv, po, mc, mv, mo, hc, hv, ho, act, kn, sq⟩).hc (tellD ⟨st, lim, mis, last, pc, pv, po, mc, mv, mo, hc, hv, ho, act, kn, sq⟩).hv (tellD ⟨st, lim, mis, last, pc, pv, po, mc, mv, mo, hc, hv, ho, act, kn, sq⟩).ho (tellD ⟨st, lim, mis, last, pc, pv, po, mc, mv, mo, hc, hv, ho, act, kn, sq⟩).act (tellD ⟨st, lim, mis, last, pc, pv, po, mc, mv, mo, hc, hv, ho, act, kn, sq⟩).kn (tellD ⟨st, lim, mis, last, pc, pv, po, mc, mv, mo, hc, hv, ho, act, kn, sq⟩).sq (toldB ⟨st, lim, mis, last, pc, pv, po, mc, mv, mo, hc, hv, ho, act, kn, sq⟩ want clr p) (frame_length _ _ _ _) CC CCr CT CTr CR CRr CL (hno hok)
  · rw [right_no hr] at CRr CR
    rw [show lostD D = true from decide_eq_true (.inl hr)] at CL
    have CC := fun W => come_bad D hW hr a (min (l0.length : Int) 40).toNat cap W
    have CT := fun W => (tell_bad D hW hr want clr p W).mono fun _ _ h => (by obtain ⟨A, cap, he, _, hb⟩ := h; exact (⟨A, cap, he, hb⟩ : ToldNo W _ _))
    subst hD
    by_cases hok : 1 ≤ a0 ∧ a0 ≤ 100 ∧ 1 ≤ a1 ∧ a1 ≤ 20
    · exact yesB a0 a1 st lim mis last pc pv po mc mv mo hc hv ho act kn sq a l0.length cap hcap0 (by unfold maxLen at hmax0; omega) want clr p w _ rfl CC CT CR CRr CL hok
    · exact noB a0 a1 st lim mis last pc pv po mc mv mo hc hv ho act kn sq a l0.length cap hcap0 (by unfold maxLen at hmax0; omega) want clr p w _ rfl CC CT CR CRr CL (hno hok)
end Go.Proofs.Ytdfgjfojneoljaa.driveSteps
