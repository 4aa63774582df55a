/- What the document's own Code, Blocks and Line answer: by walks over the program. -/
import Derived.Test.YtpodboklhajbeaaDoorCodeBc
import Derived.Test.YtpodboklhajbeaaDoorRefUb
import Derived.Test.YtpodboklhajbeaaDoorMa
import Derived.Test.YtpodboklhajbeaaDoorRefO
import Derived.Test.YtpodboklhajbeaaDoorDk
import Derived.BigQuiet
namespace Go.Proofs.YtpodboklhajbeaaDoor
open Go.ChangeShapes Go.WideShapes Go.ChangeAt Go.RowKit El Pol Mx
set_option maxHeartbeats 400000 in
theorem rcode_any (k m : Int) (w : World) :
    Calls Tryd.prog 20 #[.int .i64 k, .int .i64 m] w fun e w' => e = .returned (.int .i64 ((cbad k m : Nat) : Int)) ∧ w' = w := by
  by_cases h1 : k < 1
  · rw [show cbad k m = 1 from if_pos (.inl h1)]
    go_enter Tryd.func20, Tryd.ntmps20
    go_wp2
    go_ret
    exact ⟨rfl, rfl⟩
  · by_cases h2 : m < 0
    · rw [show cbad k m = 1 from if_pos (.inr (.inl h2))]
      go_enter Tryd.func20, Tryd.ntmps20
      go_wp2
      go_ret
      exact ⟨rfl, rfl⟩
    · by_cases h3 : 12 < k
      · rw [show cbad k m = 1 from if_pos (.inr (.inr (by omega)))]
        go_enter Tryd.func20, Tryd.ntmps20
        go_wp2
        go_ret
        exact ⟨rfl, rfl⟩
      · by_cases h4 : 12 < m
        · rw [show cbad k m = 1 from if_pos (.inr (.inr (by omega)))]
          go_enter Tryd.func20, Tryd.ntmps20
          go_wp2
          go_ret
          exact ⟨rfl, rfl⟩
        · by_cases h5 : 12 < k + m
          · rw [show cbad k m = 1 from if_pos (.inr (.inr h5))]
            go_enter Tryd.func20, Tryd.ntmps20
            go_wp2
            go_ret
            exact ⟨rfl, rfl⟩
          · rw [show cbad k m = 0 from if_neg (by omega)]
            go_enter Tryd.func20, Tryd.ntmps20
            go_wp2
            go_ret
            exact ⟨rfl, rfl⟩
end Go.Proofs.YtpodboklhajbeaaDoor
