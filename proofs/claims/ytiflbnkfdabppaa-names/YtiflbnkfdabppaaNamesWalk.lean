/- The names of errors and numbers are the document's: the call answers true. -/
import Derived.Test.YtiflbnkfdabppaaRows
import Derived.WalkKit
import Derived.ProofKit
import Derived.OpenShut
namespace Go.Proofs.Ytiflbnkfdabppaa
open Go.ChangeShapes Go.WideShapes Go.ChangeAt Go.RowKit
set_option maxRecDepth 100000 in
set_option maxHeartbeats 400000 in
theorem names_any (w : World) :
    Calls Try.prog 3 #[] w fun e w' => e = .returned (.bool true) ∧ Grown w w' := by
  go_enter Try.func3, Try.ntmps3
  go_wp2
  go_loop [4] (fun t => ∃ k : Nat, k ≤ 10 ∧ t = .int .i64 k) (fun t => (10 - intOf t).toNat)
  case atStart => exact ⟨0, by omega, rfl⟩
  case round =>
    obtain ⟨k, hk, rfl⟩ := hrel
    by_cases hlt : k < 10
    · have hc : k = 0 ∨ k = 1 ∨ k = 2 ∨ k = 3 ∨ k = 4 ∨ k = 5 ∨ k = 6 ∨ k = 7 ∨ k = 8 ∨ k = 9 := by omega
      clear hk hlt
      rcases hc with rfl | rfl | rfl | rfl | rfl | rfl | rfl | rfl | rfl | rfl
      all_goals
        go_wp2
        go_round
        case rel => exact ⟨_ + 1, by omega, rfl⟩
        case measure => simp [intOf]
    · have hk' : k = 10 := by omega
      subst hk'
      clear hk hlt
      go_wp2
      go_ret
      exact ⟨rfl, (Grown.refl w).alloc _ _⟩
end Go.Proofs.Ytiflbnkfdabppaa
