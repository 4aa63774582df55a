/- In how many ways: a walk over the program. -/
import Derived.Test.YtfnbpljgmchhbaaOdC
import Derived.Test.YtfnbpljgmchhbaaErrv
namespace Go.Proofs.Ytfnbpljgmchhbaa
open Go.RowKit
set_option maxRecDepth 100000 in
theorem choose_bad {n k : Int} (h : n < 0 ∨ 30 < n ∨ k < 0 ∨ n < k) (w : World) : Calls Try.prog 16 #[.int .i64 n, .int .i64 k] w fun e w' => e = .returned (.tuple #[.int .i64 0, errV 1]) ∧ w' = w := by
  rw [errV_ne (by omega)]
  by_cases h1 : n < 0
  · have d1 : decide (n < 0) = true := decide_eq_true h1
    clear h
    go_enter Try.func16, Try.ntmps16
    go_wp2
    go_ret2
    exact ⟨rfl, rfl⟩
  · have d1 : decide (n < 0) = false := decide_eq_false h1
    by_cases h2 : 30 < n
    · have d2 : decide (30 < n) = true := decide_eq_true h2
      clear h
      go_enter Try.func16, Try.ntmps16
      go_wp2
      go_ret2
      exact ⟨rfl, rfl⟩
    · have d2 : decide (30 < n) = false := decide_eq_false h2
      by_cases h3 : k < 0
      · have d3 : decide (k < 0) = true := decide_eq_true h3
        clear h
        go_enter Try.func16, Try.ntmps16
        go_wp2
        go_ret2
        exact ⟨rfl, rfl⟩
      · have d3 : decide (k < 0) = false := decide_eq_false h3
        have h4 : n < k := by omega
        have d4 : decide (n < k) = true := decide_eq_true h4
        clear h
        go_enter Try.func16, Try.ntmps16
        go_wp2
        go_ret2
        exact ⟨rfl, rfl⟩
set_option maxRecDepth 100000 in
set_option maxHeartbeats 1000000 in
theorem choose_ok {n k : Nat} (hn : n ≤ 30) (hk : k ≤ n) (w : World) : Calls Try.prog 16 #[.int .i64 (n : Int), .int .i64 (k : Int)] w fun e w' => e = .returned (.tuple #[.int .i64 (chs n k : Int), .nilIface]) ∧ w' = w := by
  have d2 : decide ((30 : Int) < (n : Int)) = false := decide_eq_false (by omega)
  have d4 : decide ((n : Int) < (k : Int)) = false := decide_eq_false (by omega)
  go_enter Try.func16, Try.ntmps16
  go_wp2
  go_loop [6, 25] (fun a t => ∃ j : Nat, j ≤ k ∧ a = .int .i64 (chs n j : Int) ∧ t = .int .i64 j) (fun _ t => k - (intOf t).toNat)
  case atStart => exact ⟨0, Nat.zero_le _, by rw [chs_zero]; rfl, rfl⟩
  case round =>
    obtain ⟨j, hj, rfl, rfl⟩ := hrel
    by_cases hlt : j < k
    · have hs : chs n j ≤ 1073741824 := chs_small hn
      have HQ : Hid (chs n j * (n - j) / (j + 1) = chs n (j + 1)) := chs_next n j
      obtain ⟨c, hc⟩ : ∃ c, c = chs n j := ⟨_, rfl⟩
      rw [← hc] at hs HQ ⊢
      obtain ⟨r, hr⟩ : ∃ r : Nat, n - j = r := ⟨_, rfl⟩
      have y1 : IntKind.i64.wrap ((n : Int) - (j : Int)) = (r : Int) := by rw [show (n : Int) - (j : Int) = (r : Int) by omega]; exact wrap_small _ (by omega) (by omega)
      have hcr : c * r ≤ 1073741824 * 30 := Nat.mul_le_mul hs (by omega)
      obtain ⟨p, hp⟩ : ∃ p, p = c * r := ⟨_, rfl⟩
      rw [hr, ← hp] at HQ
      rw [← hp] at hcr
      have y2 : IntKind.i64.wrap ((c : Int) * (r : Int)) = (p : Int) := by rw [hp]; rw [← Int.natCast_mul, ← hp]; exact wrap_small _ (by omega) (by omega)
      have y3 : IntKind.i64.wrap ((j : Int) + 1) = (j : Int) + 1 := wrap_small _ (by omega) (by omega)
      have y4 : ((j : Int) + 1 == 0) = false := by rw [beq_eq_false_iff_ne]; omega
      obtain ⟨q, hq⟩ : ∃ q, q = chs n (j + 1) := ⟨_, rfl⟩
      have y5 : Int.tdiv (p : Int) ((j : Int) + 1) = (q : Int) := by
        rw [hq, ← HQ.out]
        rfl
      have y6 : IntKind.i64.wrap (q : Int) = (q : Int) := wrap_small _ (by omega) (by rw [hq]; have := chs_small (n := n) (k := j + 1) hn; omega)
      have HQ2 : Hid (q = chs n (j + 1)) := hq
      clear hc hr hp hq HQ hcr
      go_wp2
      go_round
      case rel => exact ⟨j + 1, by omega, by rw [← HQ2.out], by go_num⟩
      case measure => simp [intOf]; omega
    · obtain rfl : j = k := by omega
      go_wp2
      go_ret2
      exact ⟨rfl, rfl⟩
theorem choose_any (n k : Int) (w : World) : Calls Try.prog 16 #[.int .i64 n, .int .i64 k] w fun e w' => e = .returned (.tuple #[.int .i64 (chV n k : Int), errV (chE n k)]) ∧ w' = w := by
  by_cases h : n < 0 ∨ 30 < n ∨ k < 0 ∨ n < k
  · rw [chV_bad (by rw [chE_bad h]; omega), chE_bad h]
    exact choose_bad h w
  · obtain ⟨a, rfl⟩ : ∃ a : Nat, n = (a : Int) := ⟨n.toNat, by omega⟩
    obtain ⟨b, rfl⟩ : ∃ b : Nat, k = (b : Int) := ⟨k.toNat, by omega⟩
    rw [chV_ok (by omega) (by omega), chE_ok (by omega) (by omega)]
    exact choose_ok (by omega) (by omega) w
end Go.Proofs.Ytfnbpljgmchhbaa
