/- What code.Check answers: by a walk over the program. -/
import Derived.Test.YtfnbpljgmchhbaaCd
namespace Go.Proofs.Ytfnbpljgmchhbaa
open Go.ChangeShapes Go.WideShapes Go.ChangeAt Go.RowKit El Pol
/-- what is wrong with a code: 0 or 1 -/
def cbad (k m : Int) : Nat := if k < 1 ∨ m < 0 ∨ 12 < k + m then 1 else 0
theorem cbad_le (k m : Int) : cbad k m ≤ 1 := by unfold cbad; split <;> omega
theorem cbad_ok {k m : Int} (h : cbad k m = 0) : 1 ≤ k ∧ 0 ≤ m ∧ k + m ≤ 12 := by
  unfold cbad at h
  split at h
  · omega
  · omega
theorem cbad_of {k m : Nat} (h1 : 1 ≤ k) (h2 : k + m ≤ 12) : cbad k m = 0 := by
  unfold cbad
  rw [if_neg (by omega)]
set_option maxHeartbeats 400000 in
theorem ccheck_any (k m : Int) (hk : -9223372036854775808 ≤ k ∧ k ≤ 9223372036854775807) (hm : -9223372036854775808 ≤ m ∧ m ≤ 9223372036854775807) (w : World) :
    Calls Try.prog 24 #[.int .i64 k, .int .i64 m] w fun e w' => e = .returned (errV (cbad k m)) ∧ w' = w := by
  by_cases h1 : k < 1
  · have e : cbad k m = 1 := if_pos (.inl h1)
    rw [e]
    go_enter Try.func24, Try.ntmps24
    go_wp2
    go_ret
    exact ⟨rfl, rfl⟩
  · by_cases h2 : m < 0
    · have e : cbad k m = 1 := if_pos (.inr (.inl h2))
      rw [e]
      go_enter Try.func24, Try.ntmps24
      go_wp2
      go_ret
      exact ⟨rfl, rfl⟩
    · by_cases h3 : 12 - m < k
      · have e : cbad k m = 1 := if_pos (.inr (.inr (by omega)))
        rw [e]
        go_enter Try.func24, Try.ntmps24
        go_wp2
        go_ret
        exact ⟨rfl, rfl⟩
      · have e : cbad k m = 0 := if_neg (by omega)
        rw [e]
        go_enter Try.func24, Try.ntmps24
        go_wp2
        go_ret
        exact ⟨rfl, rfl⟩
end Go.Proofs.Ytfnbpljgmchhbaa
