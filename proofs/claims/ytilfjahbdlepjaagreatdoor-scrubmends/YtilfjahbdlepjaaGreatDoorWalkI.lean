/- Inverses in the field: walks over the program. -/
import Derived.Test.YtilfjahbdlepjaaGreatDoorMe
namespace Go.Proofs.YtilfjahbdlepjaaGreatDoor
open Go.ChangeShapes Go.WideShapes Go.ChangeAt Go.RowKit

theorem inv_none (w : World) :
    Calls Tryz.prog 123 #[.int .u8 0] w fun e w' => e = .returned (.tuple #[.int .u8 0, .iface 77 (.int .i64 5)]) ∧ w' = w := by
  go_enter Tryz.func123, Tryz.ntmps123
  go_wp2
  go_ret2
  exact ⟨rfl, rfl⟩
theorem inv_some (a : Nat) (ha : a < 256) (h0 : a ≠ 0) (w : World) :
    Calls Tryz.prog 123 #[.int .u8 a] w fun e w' => e = .returned (.tuple #[.int .u8 ((GF.inv a : Nat) : Int), .nilIface]) ∧ w' = w := by
  have hz : ((a : Int) == 0) = false := by rw [beq_eq_false_iff_ne]; omega
  go_enter Tryz.func123, Tryz.ntmps123
  go_wp2_with fail
  refine (power_any a 254 ha (by omega) _).mono ?_
  rintro e w' ⟨rfl, rfl⟩
  go_wp2_with fail
  go_ret2
  exact ⟨ret_int2 (by rw [GF.inv_eq ha]), rfl⟩
end Go.Proofs.YtilfjahbdlepjaaGreatDoor
