/- An axis in Standstill, at rest, to which nothing comes but power: cycle by cycle. No condition beyond what each line says. -/
import Derived.Test.YtijlccblabadaaaGreatU02
import Derived.Test.YtijlccblabadaaaGreatX01
section
namespace Go.Proofs.YtijlccblabadaaaGreat.ax
set_option maxRecDepth 100000
open Go.Proofs.YtijlccblabadaaaGreat.ln (C)
set_option linter.unusedVariables false
structure QS (o : Int) (k : Nat) (a : Ax) : Prop where
 good : GoodA a
 st : a.st = 1
 v : a.v = 0
 ov : a.ov = o
 lead : Lead a.sm a.p k
theorem QS.quiet {o : Int} {k : Nat} {a : Ax} (h : QS o k a) {i : In} (hp : i.power = true) (ho : i.op = true) (hc : i.cause = 0) (hv : i.ov = o) (hl : i.cmds = []) : QuietI a i := ⟨hp, ho, hc, by rw [hv, h.ov], hl⟩
theorem QS.next {o : Int} {k : Nat} {a : Ax} (h : QS o k a) : QS o (k + 1) (pushed a) := by
 have z : InR 0 := ⟨by omega, by omega⟩
 have hi : WideI ⟨true, true, 0, 0, false, false, false, false, false, o, 0, []⟩ := ⟨z, z, by show InR o; rw [← h.ov]; exact h.good.wide.ov, z, fun x hx => by cases hx⟩
 have hs := (quiet_step h.good.right h.st h.v (h.quiet (i := ⟨true, true, 0, 0, false, false, false, false, false, o, 0, []⟩) rfl rfl rfl rfl rfl)).1
 have hg := h.good.step hi
 rw [hs] at hg
 have hw := h.good.right.win1
 have hl := h.good.right.len
 exact ⟨hg, h.st, h.v, h.ov, h.lead.push (by omega)⟩
theorem QS.first {a : Ax} (hg : GoodA a) (h1 : a.st = 1) (hv : a.v = 0) : QS a.ov 0 a := ⟨hg, h1, hv, rfl, fun j hj => absurd hj (by omega)⟩
theorem QS.rest {o : Int} {a : Ax} (h : QS o 16 a) : pushed a = a := pushed_self h.good.right h.lead
end Go.Proofs.YtijlccblabadaaaGreat.ax
end
