/- Errors told, and the memory that stays. -/
import Derived.Test.YtdbanimlnjhhlaaDoorTold
namespace Go.Proofs.YtdbanimlnjhhlaaDoor
open Go.ChangeShapes Go.WideShapes Go.ChangeAt Go.RowKit
theorem err_same (k : Int) (w : World) (hg : Handle w) :
    Calls Tryd.prog 9 #[.iface 66 (.int .i64 k), .int .i64 k] w fun e w' => e = .returned (.bool true) ∧ Below w.heap.size w w' :=
  (error_errno k k w hg).mono fun _ _ ⟨he, hk⟩ => ⟨by rw [he]; simp, hk.below⟩
theorem err_none (w : World) :
    Calls Tryd.prog 9 #[.nilIface, .int .i64 0] w fun e w' => e = .returned (.bool true) ∧ w' = w := error_nil 0 w
theorem err_no (w : World) :
    Calls Tryd.prog 9 #[.nilIface, .int .i64 5] w fun e w' => e = .returned (.bool false) ∧ w' = w := error_nil 5 w
theorem err_is (k l : Int) (b : Bool) (h : (k == l) = b) (w : World) (hg : Handle w) :
    Calls Tryd.prog 9 #[.iface 66 (.int .i64 k), .int .i64 l] w fun e w' => e = .returned (.bool b) ∧ Below w.heap.size w w' :=
  (error_errno k l w hg).mono fun _ _ ⟨he, hk⟩ => ⟨by rw [he, h], hk.below⟩
end Go.Proofs.YtdbanimlnjhhlaaDoor
