/- What field.Pow and field.Log answer, whatever they are given: by walks over the program. -/
import Derived.Test.YtiflbnkfdabppaaDoorWalk0
import Derived.Test.YtiflbnkfdabppaaDoorWalkD
import Derived.Test.YtiflbnkfdabppaaDoorWalkP
namespace Go.Proofs.YtiflbnkfdabppaaDoor
open Go.ChangeShapes Go.WideShapes Go.ChangeAt Go.RowKit
set_option maxRecDepth 100000 in
set_option maxHeartbeats 400000 in
theorem log_none (w : World) :
    Calls Tryd.prog 12 #[.int .u8 0] w fun e w' => e = .returned (.tuple #[.int .i64 0, .iface 37 (.int .i64 5)]) ∧ w' = w := by
  go_enter Tryd.func12, Tryd.ntmps12
  go_wp2
  go_loop [4, 6] (fun s t => ∃ k : Nat, k ≤ 255 ∧ s = .int .u8 (GF.ex k) ∧ t = .int .i64 k) (fun _ t => (255 - intOf t).toNat)
  case atStart => exact ⟨0, by omega, rfl, rfl⟩
  case round =>
    obtain ⟨k, hk, rfl, rfl⟩ := hrel
    by_cases hlt : k < 255
    · have hne : ((GF.ex k : Int) == 0) = false := by rw [beq_eq_false_iff_ne]; have := GF.ex_ne_zero k; omega
      go_wp2_with (go_at_call 16; refine (timesX_any _ (GF.ex_lt k) _).mono ?_; rintro e w' ⟨rfl, rfl⟩)
      go_round
      case rel => exact ⟨k + 1, by omega, rfl, by go_num⟩
      case measure => simp [intOf]; omega
    · go_wp2
      go_ret2
      exact ⟨rfl, rfl⟩
set_option maxRecDepth 100000 in
set_option maxHeartbeats 400000 in
theorem log_some (a : Nat) (ha : a < 256) (h0 : a ≠ 0) (w : World) :
    Calls Tryd.prog 12 #[.int .u8 a] w fun e w' => e = .returned (.tuple #[.int .i64 ((GF.log a : Nat) : Int), .nilIface]) ∧ w' = w := by
  obtain ⟨hl, he, hs⟩ := GF.log_spec ha h0
  have HE : Hid (GF.ex (GF.log a) = a) := he
  have HS : Hid (∀ j, j < GF.log a → GF.ex j ≠ a) := hs
  clear he hs
  go_enter Tryd.func12, Tryd.ntmps12
  go_wp2
  go_loop [4, 6] (fun s t => ∃ k : Nat, k ≤ GF.log a ∧ s = .int .u8 (GF.ex k) ∧ t = .int .i64 k) (fun _ t => (255 - intOf t).toNat)
  case atStart => exact ⟨0, by omega, rfl, rfl⟩
  case round =>
    obtain ⟨k, hk, rfl, rfl⟩ := hrel
    have hlt : k < 255 := by omega
    by_cases hkl : k < GF.log a
    · have hne : ((GF.ex k : Int) == (a : Int)) = false := by rw [beq_eq_false_iff_ne]; have := HS.out k hkl; omega
      go_wp2_with (go_at_call 16; refine (timesX_any _ (GF.ex_lt k) _).mono ?_; rintro e w' ⟨rfl, rfl⟩)
      go_round
      case rel => exact ⟨k + 1, by omega, rfl, by go_num⟩
      case measure => simp [intOf]; omega
    · have hkl' : k = GF.log a := by omega
      have heq : ((GF.ex k : Int) == (a : Int)) = true := by rw [beq_iff_eq, hkl', HE.out]
      have HK : Hid (k = GF.log a) := hkl'
      clear hkl'
      go_wp2
      go_ret2
      exact ⟨ret_int2 (by rw [HK.out]), rfl⟩
end Go.Proofs.YtiflbnkfdabppaaDoor
