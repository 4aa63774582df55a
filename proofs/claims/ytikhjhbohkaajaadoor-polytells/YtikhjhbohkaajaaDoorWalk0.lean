/- What each function of package field answers, whatever it is given: by walks over the program. -/
import Derived.Test.YtikhjhbohkaajaaDoorRows
import Derived.Test.YtikhjhbohkaajaaDoorGen
import Derived.Test.YtikhjhbohkaajaaDoorField
import Derived.WalkKit
import Derived.ProofKit
import Derived.OpenShut
import Derived.Laws.BitsAllLaws
import Derived.Laws.Bits128
namespace Go.Proofs.YtikhjhbohkaajaaDoor
open Go.ChangeShapes Go.WideShapes Go.ChangeAt Go.RowKit
theorem and128 (a : Nat) (ha : a < 256) : (bits BinOp.and IntKind.u8 (a : Int) 128 != 0) = decide (128 ≤ a) := by
  have e : bits BinOp.and IntKind.u8 (a : Int) 128 = ((a &&& 128 : Nat) : Int) := u8_and_nat a 128 ha (by omega)
  rw [e]
  have : ∀ x : Nat, x < 256 → ((x &&& 128 : Nat) != 0) = decide (128 ≤ x) := by decide +kernel
  have h := this a ha
  rw [← h, Bool.eq_iff_iff]; simp
theorem and1 (a : Nat) (ha : a < 256) : (bits BinOp.and IntKind.u8 (a : Int) 1 != 0) = decide (a % 2 = 1) := by
  have e : bits BinOp.and IntKind.u8 (a : Int) 1 = ((a &&& 1 : Nat) : Int) := u8_and_nat a 1 ha (by omega)
  rw [e, Nat.and_one_is_mod, Bool.eq_iff_iff]; simp; omega
theorem i64_and1 (n : Int) : bits .and .i64 n 1 = n % 2 := by
  have h1 : (BitVec.ofInt 64 1).toNat = 2 ^ 1 - 1 := by decide
  have key : (BitVec.ofInt 64 n &&& BitVec.ofInt 64 1).toNat = (n % ((2 ^ 64 : Nat) : Int)).toNat % 2 ^ 1 := by
    rw [BitVec.toNat_and, BitVec.toNat_ofInt, h1, Nat.and_two_pow_sub_one_eq_mod]
  show IntKind.i64.wrap ((BitVec.ofInt 64 n &&& BitVec.ofInt 64 1).toNat : Nat) = n % 2
  rw [key, IntKind.wrap_i64]
  omega
theorem iand1 (a : Nat) : (bits BinOp.and IntKind.i64 (a : Int) 1 != 0) = decide (a % 2 = 1) := by
  rw [i64_and1, Bool.eq_iff_iff]; simp; omega
theorem add_any (a b : Nat) (ha : a < 256) (hb : b < 256) (w : World) :
    Calls Tryd.prog 5 #[.int .u8 a, .int .u8 b] w fun e w' => e = .returned (.int .u8 ((a ^^^ b : Nat) : Int)) ∧ w' = w := by
  go_enter Tryd.func5, Tryd.ntmps5
  go_wp2
  go_ret
  exact ⟨ret_int (u8_xor_nat a b ha hb), rfl⟩
theorem xt_hi (a : Nat) (h : 128 ≤ a) : bits BinOp.xor IntKind.u8 ((a : Int) * 2 % 256) 29 = ((GF.xt a : Nat) : Int) := by
  have e : (a : Int) * 2 % 256 = ((2 * a % 256 : Nat) : Int) := by omega
  rw [e, show (29 : Int) = ((29 : Nat) : Int) from rfl, u8_xor_nat _ _ (by omega) (by omega)]
  unfold GF.xt
  rw [show Nat.ble 128 a = true from Nat.ble_eq ▸ h]; rfl
theorem xt_lo (a : Nat) (h : ¬ 128 ≤ a) : (a : Int) * 2 = ((GF.xt a : Nat) : Int) := by
  unfold GF.xt
  rw [show Nat.ble 128 a = false from by rw [Bool.eq_false_iff]; intro q; exact h (Nat.le_of_ble_eq_true q)]
  simp; omega
theorem timesX_any (a : Nat) (ha : a < 256) (w : World) :
    Calls Tryd.prog 30 #[.int .u8 a] w fun e w' => e = .returned (.int .u8 ((GF.xt a : Nat) : Int)) ∧ w' = w := by
  have h128 := and128 a ha
  by_cases h : 128 ≤ a
  · rw [decide_eq_true h] at h128
    go_enter Tryd.func30, Tryd.ntmps30
    go_wp2
    go_ret
    exact ⟨ret_int (xt_hi a h), rfl⟩
  · rw [decide_eq_false h] at h128
    go_enter Tryd.func30, Tryd.ntmps30
    go_wp2
    go_ret
    exact ⟨ret_int (xt_lo a h), rfl⟩
theorem half (y : Nat) : Value.int IntKind.u8 ((y : Int) / 2) = Value.int IntKind.u8 ((y / 2 : Nat) : Int) := by
  rw [show (y : Int) / 2 = ((y / 2 : Nat) : Int) from by omega]
theorem half64 (y : Nat) : Value.int IntKind.i64 ((y : Int) / 2) = Value.int IntKind.i64 ((y / 2 : Nat) : Int) := by
  rw [show (y : Int) / 2 = ((y / 2 : Nat) : Int) from by omega]
set_option maxHeartbeats 400000 in
theorem mul_any (a b : Nat) (ha : a < 256) (hb : b < 256) (w : World) :
    Calls Tryd.prog 7 #[.int .u8 a, .int .u8 b] w fun e w' => e = .returned (.int .u8 ((GF.mul a b : Nat) : Int)) ∧ w' = w := by
  go_enter Tryd.func7, Tryd.ntmps7
  go_wp2
  go_loop [0, 1, 5] (fun s t u => ∃ x y p : Nat, x < 256 ∧ y < 256 ∧ p < 256 ∧ s = .int .u8 x ∧ t = .int .u8 y ∧ u = .int .u8 p ∧ Hid (p ^^^ GF.mul x y = GF.mul a b)) (fun _ t _ => (intOf t).toNat)
  case atStart => exact ⟨a, b, 0, ha, hb, by omega, rfl, rfl, rfl, Nat.zero_xor _⟩
  case round =>
    obtain ⟨x, y, p, hx, hy, hp, rfl, rfl, rfl, HI⟩ := hrel
    by_cases hz : y = 0
    · subst hz
      go_wp2
      go_ret
      exact ⟨ret_int (by rw [← HI.out, GF.mul_zero, Nat.xor_zero]), rfl⟩
    · have hz' : ((y : Int) != 0) = true := by rw [bne_iff_ne]; omega
      have h1 := and1 y hy
      by_cases ho : y % 2 = 1
      · rw [decide_eq_true ho] at h1
        have HO : Hid (y % 2 = 1) := ho
        clear ho
        go_wp2_with (first | (go_at_call 5; refine (add_any _ _ hp hx _).mono ?_; rintro e w' ⟨rfl, rfl⟩) | (go_at_call 30; refine (timesX_any _ hx _).mono ?_; rintro e w' ⟨rfl, rfl⟩))
        go_round
        case rel => exact ⟨GF.xt x, y / 2, p ^^^ x, GF.xt_lt hx, by omega, GF.xor_lt hp hx, rfl, half y, rfl, (GF.mul_odd p hy HO.out).symm.trans HI.out⟩
        case measure => simp [intOf]; omega
      · rw [decide_eq_false ho] at h1
        have HO : Hid (¬ y % 2 = 1) := ho
        clear ho
        go_wp2_with (first | (go_at_call 30; refine (timesX_any _ hx _).mono ?_; rintro e w' ⟨rfl, rfl⟩))
        go_round
        case rel => exact ⟨GF.xt x, y / 2, p, GF.xt_lt hx, by omega, hp, rfl, half y, rfl, (GF.mul_even p hy HO.out).symm.trans HI.out⟩
        case measure => simp [intOf]; omega
theorem pow_odd {p x k : Nat} (hp : p < 256) (hx : x < 256) (h : k % 2 = 1) : GF.mul (GF.mul p x) (GF.pow (GF.mul x x) (k / 2)) = GF.mul p (GF.pow x k) := by
  rw [GF.pow_sq hx, GF.mul_assoc _ hp hx]
  congr 1
  have : k = 2 * (k / 2) + 1 := by omega
  exact (congrArg (GF.pow x) this).symm
theorem pow_even {x k : Nat} (p : Nat) (hx : x < 256) (h : ¬ k % 2 = 1) : GF.mul p (GF.pow (GF.mul x x) (k / 2)) = GF.mul p (GF.pow x k) := by
  rw [GF.pow_sq hx, show 2 * (k / 2) = k by omega]
set_option maxHeartbeats 400000 in
theorem power_any (a n : Nat) (ha : a < 256) (hn : n ≤ 9223372036854775807) (w : World) :
    Calls Tryd.prog 31 #[.int .u8 a, .int .i64 n] w fun e w' => e = .returned (.int .u8 ((GF.pow a n : Nat) : Int)) ∧ w' = w := by
  go_enter Tryd.func31, Tryd.ntmps31
  go_wp2
  go_loop [0, 1, 5] (fun s t u => ∃ x k p : Nat, x < 256 ∧ k ≤ 9223372036854775807 ∧ p < 256 ∧ s = .int .u8 x ∧ t = .int .i64 k ∧ u = .int .u8 p ∧ Hid (GF.mul p (GF.pow x k) = GF.pow a n)) (fun _ t _ => (intOf t).toNat)
  case atStart => exact ⟨a, n, 1, ha, hn, by omega, rfl, rfl, rfl, GF.one_mul (GF.pow_lt ha n)⟩
  case round =>
    obtain ⟨x, k, p, hx, hk, hp, rfl, rfl, rfl, HI⟩ := hrel
    by_cases hz : k = 0
    · subst hz
      go_wp2
      go_ret
      exact ⟨ret_int (by rw [← HI.out, GF.pow, GF.mul_one]), rfl⟩
    · have hz' : (0 : Int) < (k : Int) := by omega
      have h1 := iand1 k
      by_cases ho : k % 2 = 1
      · rw [decide_eq_true ho] at h1
        have HO : Hid (k % 2 = 1) := ho
        clear ho
        go_wp2_with fail
        refine (mul_any _ _ hp hx _).mono ?_
        rintro e w' ⟨rfl, rfl⟩
        go_wp2_with fail
        refine (mul_any _ _ hx hx _).mono ?_
        rintro e w' ⟨rfl, rfl⟩
        go_wp2_with fail
        go_round
        case rel => exact ⟨GF.mul x x, k / 2, GF.mul p x, GF.mul_lt x hx, by omega, GF.mul_lt x hp, rfl, half64 k, rfl, (pow_odd hp hx HO.out).trans HI.out⟩
        case measure => simp [intOf]; omega
      · rw [decide_eq_false ho] at h1
        have HO : Hid (¬ k % 2 = 1) := ho
        clear ho
        go_wp2_with fail
        refine (mul_any _ _ hx hx _).mono ?_
        rintro e w' ⟨rfl, rfl⟩
        go_wp2_with fail
        go_round
        case rel => exact ⟨GF.mul x x, k / 2, p, GF.mul_lt x hx, by omega, hp, rfl, half64 k, rfl, (pow_even p hx HO.out).trans HI.out⟩
        case measure => simp [intOf]; omega
end Go.Proofs.YtikhjhbohkaajaaDoor
