/- Errors told, whichever there is, and whatever is asked. -/
import Derived.Test.YtacfafbnimhibaaDoorErrw
namespace Go.Proofs.YtacfafbnimhibaaDoor
open Go.RowKit
theorem err_x (k l : Nat) (w : World) (hg : Handle w) :
    Calls Tryd.prog 8 #[errV k, .int .i64 l] w fun e w' => e = .returned (.bool (decide (k = l))) ∧ Below w.heap.size w w' := by
  unfold errV
  split
  · rename_i h
    subst h
    refine (error_nil (l : Int) w).mono fun e w' ⟨he, hw⟩ => ⟨?_, by rw [hw]; exact Below.refl _ _⟩
    rw [he]
    congr 2
    rw [Bool.eq_iff_iff]
    simp
    omega
  · refine (error_errno (k : Int) (l : Int) w hg).mono fun e w' ⟨he, hk⟩ => ⟨?_, hk.below⟩
    rw [he]
    congr 2
    rw [Bool.eq_iff_iff]
    simp
    omega
end Go.Proofs.YtacfafbnimhibaaDoor
