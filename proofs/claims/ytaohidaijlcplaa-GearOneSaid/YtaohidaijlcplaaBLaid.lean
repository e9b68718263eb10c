/- The library's own contract of sort.Search, laid at this program: how many places below n, one behind the other, are still false. -/
import Derived.Shelf.SlSorted.Search
import Derived.Test.YtaohidaijlcplaaProg
namespace Go.Proofs.Ytaohidaijlcplaa.b
open Go.Shelf Go.RowKit Go.Lib Go.Sort
set_option linter.unusedVariables false
def renSe : Go.Shelf.Ren := ⟨fun | 16 => 59 | n => n, fun | 3 => 3 | 4 => 4 | 35 => 80 | 38 => 71 | n => n, fun | n => n⟩
theorem laysSe : Go.Proofs.SlLaysO.n16 Try.prog renSe := {
  mixed := by kernel_rfl
  f16 := Try.func59.trans (congrArg some (by kernel_rfl))
  t3 := Try.underlying3
  a3 := Try.isAgg3
  z3 := Try.sizeOf3
  v3 := Try.zeroValue3
  t4 := Try.underlying4
  a4 := Try.isAgg4
  z4 := Try.sizeOf4
  v4 := Try.zeroValue4
  t35 := Try.underlying80
  a35 := Try.isAgg80
  z35 := Try.sizeOf80
  v35 := Try.zeroValue80
  t38 := Try.underlying71
  a38 := Try.isAgg71
  z38 := Try.sizeOf71
  v38 := Try.zeroValue71 }
theorem count_at (N : Nat) (v : Int) (v0 : 0 ≤ v) (v1 : v ≤ (N : Int)) : (List.range N).countP (fun i : Nat => !decide (v ≤ (i : Int))) = v.toNat := by
  have hr : ∀ t, t < N → (List.range N)[t]! = t := fun t ht => by rw [getElem!_pos _ t (by simpa using ht)]; simp
  refine Lib.countP_boundary _ (List.range N) v.toNat (by rw [List.length_range]; omega) (fun t ht => ?_) (fun t h3 h4 => ?_)
  · rw [hr t (by omega), decide_eq_false (by omega)]; rfl
  · rw [List.length_range] at h4
    rw [hr t (by omega), decide_eq_true (by omega)]; rfl
/-- sort.Search over 2^20 places, of which just those below v are false: v -/
theorem search_any (g : Nat) (cb : Array Value) (v : Int) (v0 : 0 ≤ v) (v1 : v ≤ 1048576) (w : World) (eg : ∀ args w, (callFunc g args).run Try.prog w = .ok (.enter g args) w)
    (hf : ∀ (m : Nat) (os : Array Obj) (i : Int), 0 ≤ i → i < 1048576 → Calls Try.prog g (#[.int .i64 i] ++ cb) (grow (w.drewN m) os) fun e w' => e = .returned (.bool (decide (v ≤ i))) ∧ ∃ q os', w' = grow ((grow (w.drewN m) os).drewN q) os') :
    Calls Try.prog 59 #[.int .i64 1048576, .func (.func g) #[] cb] w fun e w' => e = .returned (.int .i64 v) ∧ ∃ q os, w' = grow (w.drewN q) os := by
  have h := Any.sort_Search laysSe g cb 1048576 (fun i => decide (v ≤ (i : Int))) w eg (by omega) (fun m os i hi => hf m os (i : Int) (by omega) (by omega)) (fun a b hab hb h => by
    have := of_decide_eq_true h
    exact decide_eq_true (by omega))
  have ec := count_at 1048576 v v0 (by omega)
  rw [ec, show ((v.toNat : Nat) : Int) = v from Int.toNat_of_nonneg v0] at h
  exact h
end Go.Proofs.Ytaohidaijlcplaa.b
