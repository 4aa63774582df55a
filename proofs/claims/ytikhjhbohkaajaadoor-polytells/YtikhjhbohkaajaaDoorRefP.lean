/- What the document's own power of an element answers. -/
import Derived.Test.YtikhjhbohkaajaaDoorRef1
namespace Go.Proofs.YtikhjhbohkaajaaDoor
open Go.ChangeShapes Go.WideShapes Go.ChangeAt Go.RowKit
theorem rpow_zero (a : Int) (w : World) :
    Calls Tryd.prog 10 #[.int .u8 a, .int .i64 0] w fun e w' => e = .returned (.int .u8 1) ∧ Qt w w' := by
  go_enter Tryd.func10, Tryd.ntmps10
  go_wp2
  go_ret
  exact ⟨rfl, Qt.refl _⟩
theorem rpow_none (n : Int) (h : (n == 0) = false) (w : World) :
    Calls Tryd.prog 10 #[.int .u8 0, .int .i64 n] w fun e w' => e = .returned (.int .u8 0) ∧ Qt w w' := by
  go_enter Tryd.func10, Tryd.ntmps10
  go_wp2
  go_ret
  exact ⟨rfl, Qt.refl _⟩
theorem pow_more {a : Nat} (ha : a < 256) (i : Nat) : GF.mul (GF.pow a i) a = GF.pow a (i + 1) := by
  rw [GF.pow, GF.mul_comm (GF.pow_lt ha i) ha]
set_option maxRecDepth 100000 in
set_option maxHeartbeats 400000 in
theorem rpow_some (a n : Nat) (ha : a < 256) (h0 : a ≠ 0) (hn : n ≤ 9223372036854775807) (h : n ≠ 0) (w : World) :
    Calls Tryd.prog 10 #[.int .u8 a, .int .i64 n] w fun e w' => e = .returned (.int .u8 ((GF.pow a n : Nat) : Int)) ∧ Qt w w' := by
  have hz : ((n : Int) == 0) = false := by rw [beq_eq_false_iff_ne]; omega
  have hz2 : ((a : Int) == 0) = false := by rw [beq_eq_false_iff_ne]; omega
  have HP := GF.pow_mod ha h0 n
  have HP : Hid (GF.pow a (n % 255) = GF.pow a n) := HP
  have hm : n % 255 < 255 := Nat.mod_lt _ (by omega)
  go_enter Tryd.func10, Tryd.ntmps10
  go_wp2
  go_loopw [5, 6] (fun u t wr => ∃ i : Nat, i ≤ n % 255 ∧ u = .int .u8 (GF.pow a i) ∧ t = .int .i64 i ∧ Qt w wr) (fun _ t _ => (255 - intOf t).toNat)
  case atStart => exact ⟨0, by omega, rfl, rfl, Qt.refl w⟩
  case round =>
    obtain ⟨i, hi, rfl, rfl, hk⟩ := hrel
    have hp := GF.pow_lt ha i
    by_cases hlt : i < n % 255
    · have hl2 : (i : Int) < (n : Int) % 255 := by omega
      go_wp2_with fail
      refine (rmul_any _ a hp ha _).mono ?_
      rintro e w' ⟨rfl, hk2⟩
      go_wp2_with fail
      exact ⟨⟨i + 1, by omega, by rw [pow_more ha], by go_num, hk.trans hk2⟩, by simp [intOf]; omega⟩
    · have hl2 : ¬ (i : Int) < (n : Int) % 255 := by omega
      have HE : Hid (i = n % 255) := by show i = n % 255; omega
      go_wp2_with fail
      go_ret
      exact ⟨ret_int (by rw [← HP.out, HE.out]), hk⟩
theorem rpow_any (a n : Nat) (ha : a < 256) (hn : n ≤ 9223372036854775807) (w : World) :
    Calls Tryd.prog 10 #[.int .u8 a, .int .i64 n] w fun e w' => e = .returned (.int .u8 ((GF.pow a n : Nat) : Int)) ∧ Qt w w' := by
  by_cases h : n = 0
  · subst h; exact rpow_zero a w
  · by_cases h0 : a = 0
    · subst h0
      rw [GF.zero_pow (by omega)]
      exact rpow_none n (by rw [beq_eq_false_iff_ne]; omega) w
    · exact rpow_some a n ha h0 hn h w
end Go.Proofs.YtikhjhbohkaajaaDoor
