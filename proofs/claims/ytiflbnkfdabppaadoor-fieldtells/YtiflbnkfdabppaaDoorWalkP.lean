/- What field.Pow answers, whatever it is given: by walks over the program. -/
import Derived.Test.YtiflbnkfdabppaaDoorWalk0
namespace Go.Proofs.YtiflbnkfdabppaaDoor
open Go.ChangeShapes Go.WideShapes Go.ChangeAt Go.RowKit
theorem pow_below (a n : Int) (hn : n < 0) (w : World) :
    Calls Tryd.prog 14 #[.int .u8 a, .int .i64 n] w fun e w' => e = .returned (.tuple #[.int .u8 0, .iface 37 (.int .i64 1)]) ∧ w' = w := by
  go_enter Tryd.func14, Tryd.ntmps14
  go_wp2
  go_ret2
  exact ⟨rfl, rfl⟩
theorem pow_some (a n : Nat) (ha : a < 256) (hn : n ≤ 9223372036854775807) (w : World) :
    Calls Tryd.prog 14 #[.int .u8 a, .int .i64 n] w fun e w' => e = .returned (.tuple #[.int .u8 ((GF.pow a n : Nat) : Int), .nilIface]) ∧ w' = w := by
  have h0 : ¬ (n : Int) < 0 := by omega
  go_enter Tryd.func14, Tryd.ntmps14
  go_wp2_with fail
  refine (power_any a n ha hn _).mono ?_
  rintro e w' ⟨rfl, rfl⟩
  go_wp2_with fail
  go_ret2
  exact ⟨rfl, rfl⟩
end Go.Proofs.YtiflbnkfdabppaaDoor
