/- How many bits a number has: walks over the program. -/
import Derived.Test.YtfnbpljgmchhbaaOdC
import Derived.Test.YtfnbpljgmchhbaaErrv
namespace Go.Proofs.Ytfnbpljgmchhbaa
open Go.RowKit
theorem alloc_more (w : World) (o : Obj) : (w.alloc o).heap.size = w.heap.size + 1 := Array.size_push _
theorem shl_one {x : Nat} (h : x < 11) : IntKind.u64.wrap ((2 : Int) ^ x) = ((2 ^ x : Nat) : Int) := by
  have a : (2 : Nat) ^ x ≤ 2 ^ 10 := Nat.pow_le_pow_right (by omega) (by omega)
  rw [show ((2 : Int) ^ x) = ((2 ^ x : Nat) : Int) from (Int.natCast_pow 2 x).symm, IntKind.wrap_u64]
  generalize (2 : Nat) ^ x = y at *
  omega
set_option maxRecDepth 100000 in
set_option maxHeartbeats 1000000 in
theorem ones64_any (s : Nat) (hs : s < 1024) (w : World) : Calls Try.prog 55 #[.int .u64 (s : Int)] w fun e w' => e = .returned (.int .i64 (szs 10 s : Int)) ∧ w' = w := by
  go_enter Try.func55, Try.ntmps55
  go_wp2
  go_ret
  refine ⟨ret_int ?_, rfl⟩
  clear w
  revert s
  decide +kernel
theorem ones_any (s : Nat) (hs : s < 1024) (w : World) : Calls Try.prog 34 #[.int .u64 (s : Int)] w fun e w' => e = .returned (.int .i64 (szs 10 s : Int)) ∧ w' = w := by
  have C := ones64_any s hs w
  clear hs
  generalize szs 10 s = z at *
  go_enter Try.func34, Try.ntmps34
  go_wp2_with fail
  refine C.mono ?_
  rintro e w1 ⟨rfl, hw⟩
  obtain rfl := hw.symm
  clear C hw
  go_wp2
  go_ret
  exact ⟨rfl, rfl⟩
theorem nopar_any (p : Int) (w : World) : Calls Try.prog 32 #[.int .i64 p] w fun e w' => e = .returned (.bool (decide (p < 0) || decide (10 < p))) ∧ w' = w := by
  by_cases h1 : p < 0
  · rw [decide_eq_true h1, Bool.true_or]
    go_enter Try.func32, Try.ntmps32
    go_wp2
    go_ret
    exact ⟨rfl, rfl⟩
  · by_cases h2 : 10 < p
    · rw [decide_eq_true h2, Bool.or_true]
      go_enter Try.func32, Try.ntmps32
      go_wp2
      go_ret
      exact ⟨by simp <;> omega, rfl⟩
    · rw [decide_eq_false h1, decide_eq_false h2, Bool.or_false]
      go_enter Try.func32, Try.ntmps32
      go_wp2
      go_ret
      exact ⟨by simp <;> omega, rfl⟩
end Go.Proofs.Ytfnbpljgmchhbaa
