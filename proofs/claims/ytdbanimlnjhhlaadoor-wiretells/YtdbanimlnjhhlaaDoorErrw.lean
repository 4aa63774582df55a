/- Errors told, whether there is one or not. -/
import Derived.Test.YtdbanimlnjhhlaaDoorErrs
import Derived.Test.YtdbanimlnjhhlaaDoorErrv
namespace Go.Proofs.YtdbanimlnjhhlaaDoor
open Go.RowKit
theorem err_v (k : Nat) (w : World) (hg : Handle w) :
    Calls Tryd.prog 9 #[errV k, .int .i64 k] w fun e w' => e = .returned (.bool true) ∧ Below w.heap.size w w' := by
  unfold errV
  split
  · rename_i h
    subst h
    exact (err_none w).mono fun _ _ ⟨he, hw⟩ => ⟨he, by rw [hw]; exact Below.refl _ _⟩
  · exact err_same k w hg
end Go.Proofs.YtdbanimlnjhhlaaDoor
