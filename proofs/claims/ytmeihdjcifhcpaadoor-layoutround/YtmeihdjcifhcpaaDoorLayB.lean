/- What layout.Check, noRow, diskOfP, diskBehindP and Order answer: by walks over the program. -/
import Derived.Test.YtmeihdjcifhcpaaDoorErrv
import Derived.Test.YtmeihdjcifhcpaaDoorLayA
namespace Go.Proofs.YtmeihdjcifhcpaaDoor
open Go.RowKit Lay
def lbad (n : Int) : Nat := if n < 3 ∨ 10 < n then 1 else 0
theorem lbad_ok {n : Int} (h : lbad n = 0) : 3 ≤ n ∧ n ≤ 10 := by
  unfold lbad at h
  split at h <;> omega
theorem lbad_of {n : Int} (h1 : 3 ≤ n) (h2 : n ≤ 10) : lbad n = 0 := if_neg (by omega)
theorem lcheck_any (n : Int) (w : World) : Calls Tryd.prog 9 #[.int .i64 n] w fun e w' => e = .returned (errV (lbad n)) ∧ w' = w := by
  by_cases h1 : n < 3
  · rw [show lbad n = 1 from if_pos (.inl h1)]
    go_enter Tryd.func9, Tryd.ntmps9
    go_wp2
    go_ret
    exact ⟨rfl, rfl⟩
  · by_cases h2 : 10 < n
    · rw [show lbad n = 1 from if_pos (.inr h2)]
      go_enter Tryd.func9, Tryd.ntmps9
      go_wp2
      go_ret
      exact ⟨rfl, rfl⟩
    · rw [show lbad n = 0 from if_neg (by omega)]
      go_enter Tryd.func9, Tryd.ntmps9
      go_wp2
      go_ret
      exact ⟨rfl, rfl⟩
theorem norow_any (r : Int) (w : World) : Calls Tryd.prog 27 #[.int .i64 r] w fun e w' => e = .returned (.bool (decide (r < 0 ∨ 20 ≤ r))) ∧ w' = w := by
  by_cases h1 : r < 0
  · rw [decide_eq_true (show r < 0 ∨ 20 ≤ r from .inl h1)]
    go_enter Tryd.func27, Tryd.ntmps27
    go_wp2
    go_ret
    exact ⟨rfl, rfl⟩
  · by_cases h2 : 20 ≤ r
    · rw [decide_eq_true (show r < 0 ∨ 20 ≤ r from .inr h2)]
      go_enter Tryd.func27, Tryd.ntmps27
      go_wp2
      go_ret
      exact ⟨rfl, rfl⟩
    · rw [decide_eq_false (show ¬ (r < 0 ∨ 20 ≤ r) by omega)]
      go_enter Tryd.func27, Tryd.ntmps27
      go_wp2
      go_ret
      exact ⟨rfl, rfl⟩
theorem mod_facts {a n : Nat} (hn : 3 ≤ n) : (0 : Int) ≤ (a : Int) % (n : Int) ∧ (a : Int) % (n : Int) < (n : Int) := ⟨Int.emod_nonneg _ (by omega), Int.emod_lt_of_pos _ (by omega)⟩
theorem diskP_any (n r : Nat) (h1 : 3 ≤ n) (h2 : n ≤ 10) (hr : r < 20) (w : World) :
    Calls Tryd.prog 41 #[.int .i64 n, .int .i64 r] w fun e w' => e = .returned (.int .i64 ((dP n r : Nat) : Int)) ∧ w' = w := by
  have hm := mod_facts (a := r) h1
  have hm1 := hm.1
  have hm2 := hm.2
  have E : Hid ((n : Int) - 1 - (r : Int) % (n : Int) = ((dP n r : Nat) : Int)) := by
    (show (n : Int) - 1 - (r : Int) % (n : Int) = _)
    unfold dP
    omega
  clear hm
  go_enter Tryd.func41, Tryd.ntmps41
  go_wp2
  go_ret
  exact ⟨ret_int E.out, rfl⟩
theorem behindP_any (n r b : Nat) (h1 : 3 ≤ n) (h2 : n ≤ 10) (hr : r < 20) (hb : b ≤ 20) (w : World) :
    Calls Tryd.prog 28 #[.int .i64 n, .int .i64 r, .int .i64 b] w fun e w' => e = .returned (.int .i64 (((dP n r + b) % n : Nat) : Int)) ∧ w' = w := by
  have hp := dP_lt (r := r) h1
  have C := diskP_any n r h1 h2 hr
  generalize dP n r = p at *
  have hm := mod_facts (a := p + b) h1
  have hm1 := hm.1
  have hm2 := hm.2
  rw [Int.natCast_add] at hm1 hm2
  clear hm
  go_enter Tryd.func28, Tryd.ntmps28
  go_wp2_with fail
  refine (C _).mono ?_
  rintro e w1 ⟨rfl, hw⟩
  obtain rfl := hw.symm
  clear C
  go_wp2
  go_ret
  exact ⟨ret_int (by rw [Int.natCast_emod, Int.natCast_add]), rfl⟩
end Go.Proofs.YtmeihdjcifhcpaaDoor
