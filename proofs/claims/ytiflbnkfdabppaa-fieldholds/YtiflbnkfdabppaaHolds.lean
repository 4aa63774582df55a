/- Sums and products in any order, one over the other, inverses, quotients, powers: the call answers true, whatever it is given. -/
import Derived.Test.YtiflbnkfdabppaaWalkI
import Derived.Test.YtiflbnkfdabppaaWalks
namespace Go.Proofs.Ytiflbnkfdabppaa
open Go.ChangeShapes Go.WideShapes Go.ChangeAt Go.RowKit
theorem bq {a b : Nat} (h : a = b) : ((a : Int) == (b : Int)) = true := by rw [beq_iff_eq, h]
theorem bn {a b : Nat} (h : a = b) : ((a : Int) != (b : Int)) = false := by rw [bne_eq_false_iff_eq, h]
theorem div_mul {a b : Nat} (ha : a < 256) (hb : b < 256) (h0 : b ≠ 0) : GF.mul (GF.mul a b) (GF.inv b) = a := by
  rw [GF.mul_assoc _ ha hb, GF.mul_inv hb h0, GF.mul_one]
theorem inv_zero (a : Nat) (h : a = 0) (w : World) :
    Calls Try.prog 10 #[.int .u8 a] w fun e w' => e = .returned (.tuple #[.int .u8 0, .iface 23 (.int .i64 5)]) ∧ w' = w := by
  subst h; exact inv_none w
theorem div_zero (a : Int) (b : Nat) (h : b = 0) (w : World) :
    Calls Try.prog 11 #[.int .u8 a, .int .u8 b] w fun e w' => e = .returned (.tuple #[.int .u8 0, .iface 23 (.int .i64 5)]) ∧ w' = w := by
  subst h; exact div_none a w
theorem log_zero (a : Nat) (h : a = 0) (w : World) :
    Calls Try.prog 12 #[.int .u8 a] w fun e w' => e = .returned (.tuple #[.int .i64 0, .iface 23 (.int .i64 5)]) ∧ w' = w := by
  subst h; exact log_none w
set_option maxRecDepth 100000 in
set_option maxHeartbeats 1000000 in
theorem holds_any (a b c : Nat) (n m : Int) (ha : a < 256) (hb : b < 256) (hc : c < 256) (w : World) :
    Calls Try.prog 4 #[.int .u8 a, .int .u8 b, .int .u8 c, .int .i64 n, .int .i64 m] w fun e w' => e = .returned (.bool true) ∧ w' = w := by
  have h29 : ((GF.mul 2 128 : Nat) : Int) = 29 := by decide +kernel
  have h3 : ((5 ^^^ 6 : Nat) : Int) = 3 := by decide +kernel
  have hp := GF.mul_lt b ha
  have hbc := GF.mul_lt c hb
  have hac := GF.mul_lt c ha
  have hxbc := GF.xor_lt hb hc
  have e1 := bq (GF.mul_comm ha hb)
  have e2 := bq (GF.mul_assoc c ha hb)
  have e3 := bq (GF.mul_add a b c)
  have e4 : (((a ^^^ a : Nat) : Int) == 0) = true := bq (Nat.xor_self a)
  have e5 := bq (GF.mul_one a)
  by_cases h0 : a = 0
  · have z0 : ((a : Int) != 0) = false := by rw [bne_eq_false_iff_eq]; omega
    have zp : (((GF.mul a b : Nat) : Int) == 0) = true := by rw [beq_iff_eq, h0, GF.zero_mul]; rfl
    have H0 : Hid (a = 0) := h0
    clear h0
    go_enter Try.func4, Try.ntmps4
    go_wp2_with fail
    refine (mul_any 2 128 (by omega) (by omega) _).mono ?_
    rintro e w' ⟨rfl, rfl⟩
    go_wp2_with fail
    refine (add_any 5 6 (by omega) (by omega) _).mono ?_
    rintro e w' ⟨rfl, rfl⟩
    go_wp2_with fail
    refine (mul_any a b ha hb _).mono ?_
    rintro e w' ⟨rfl, rfl⟩
    go_wp2_with fail
    refine (mul_any b a hb ha _).mono ?_
    rintro e w' ⟨rfl, rfl⟩
    go_wp2_with fail
    refine (mul_any _ c hp hc _).mono ?_
    rintro e w' ⟨rfl, rfl⟩
    go_wp2_with fail
    refine (mul_any b c hb hc _).mono ?_
    rintro e w' ⟨rfl, rfl⟩
    go_wp2_with fail
    refine (mul_any a _ ha hbc _).mono ?_
    rintro e w' ⟨rfl, rfl⟩
    go_wp2_with fail
    refine (add_any b c hb hc _).mono ?_
    rintro e w' ⟨rfl, rfl⟩
    go_wp2_with fail
    refine (mul_any a _ ha hxbc _).mono ?_
    rintro e w' ⟨rfl, rfl⟩
    go_wp2_with fail
    refine (mul_any a c ha hc _).mono ?_
    rintro e w' ⟨rfl, rfl⟩
    go_wp2_with fail
    refine (add_any _ _ hp hac _).mono ?_
    rintro e w' ⟨rfl, rfl⟩
    go_wp2_with fail
    refine (add_any a a ha ha _).mono ?_
    rintro e w' ⟨rfl, rfl⟩
    go_wp2_with fail
    refine (mul_any a 1 ha (by omega) _).mono ?_
    rintro e w' ⟨rfl, rfl⟩
    go_wp2_with fail
    refine (inv_zero a H0.out _).mono ?_
    rintro e w' ⟨rfl, rfl⟩
    go_wp2_with fail
    by_cases b0 : b = 0
    · have B0 : Hid (b = 0) := b0
      clear b0
      refine (div_zero _ b B0.out _).mono ?_
      rintro e w' ⟨rfl, rfl⟩
      go_wp2_with fail
      refine (log_zero a H0.out _).mono ?_
      rintro e w' ⟨rfl, rfl⟩
      go_wp2_with fail
      refine (pow_some 2 0 (by omega) (by omega) _).mono ?_
      rintro e w' ⟨rfl, rfl⟩
      go_wp2_with fail
      all_goals first | (go_ret; exact ⟨rfl, rfl⟩) | skip
      have n0 : 0 ≤ n := by omega
      have m0 : 0 ≤ m := by omega
      have n1 : n ≤ 1000000 := by omega
      have m1 : m ≤ 1000000 := by omega
      obtain ⟨n, rfl⟩ := Int.eq_ofNat_of_zero_le n0
      obtain ⟨m, rfl⟩ := Int.eq_ofNat_of_zero_le m0
      have e9 := bq (GF.pow_add ha n m).symm
      refine (pow_some a n ha (by omega) _).mono ?_
      rintro e w' ⟨rfl, rfl⟩
      go_wp2_with fail
      refine (pow_some a m ha (by omega) _).mono ?_
      rintro e w' ⟨rfl, rfl⟩
      go_wp2_with fail
      rw [show ((n : Int) + (m : Int)) = ((n + m : Nat) : Int) from by omega]
      refine (pow_some a (n + m) ha (by omega) _).mono ?_
      rintro e w' ⟨rfl, rfl⟩
      go_wp2_with fail
      refine (mul_any _ _ (GF.pow_lt ha n) (GF.pow_lt ha m) _).mono ?_
      rintro e w' ⟨rfl, rfl⟩
      go_wp2_with fail
      go_ret
      exact ⟨rfl, rfl⟩
    · have e8 := bn (div_mul ha hb b0)
      refine (div_some _ b hp hb b0 _).mono ?_
      rintro e w' ⟨rfl, rfl⟩
      go_wp2_with fail
      refine (log_zero a H0.out _).mono ?_
      rintro e w' ⟨rfl, rfl⟩
      go_wp2_with fail
      refine (pow_some 2 0 (by omega) (by omega) _).mono ?_
      rintro e w' ⟨rfl, rfl⟩
      go_wp2_with fail
      all_goals first | (go_ret; exact ⟨rfl, rfl⟩) | skip
      have n0 : 0 ≤ n := by omega
      have m0 : 0 ≤ m := by omega
      have n1 : n ≤ 1000000 := by omega
      have m1 : m ≤ 1000000 := by omega
      obtain ⟨n, rfl⟩ := Int.eq_ofNat_of_zero_le n0
      obtain ⟨m, rfl⟩ := Int.eq_ofNat_of_zero_le m0
      have e9 := bq (GF.pow_add ha n m).symm
      refine (pow_some a n ha (by omega) _).mono ?_
      rintro e w' ⟨rfl, rfl⟩
      go_wp2_with fail
      refine (pow_some a m ha (by omega) _).mono ?_
      rintro e w' ⟨rfl, rfl⟩
      go_wp2_with fail
      rw [show ((n : Int) + (m : Int)) = ((n + m : Nat) : Int) from by omega]
      refine (pow_some a (n + m) ha (by omega) _).mono ?_
      rintro e w' ⟨rfl, rfl⟩
      go_wp2_with fail
      refine (mul_any _ _ (GF.pow_lt ha n) (GF.pow_lt ha m) _).mono ?_
      rintro e w' ⟨rfl, rfl⟩
      go_wp2_with fail
      go_ret
      exact ⟨rfl, rfl⟩
  · have z0 : ((a : Int) != 0) = true := by rw [bne_iff_ne]; omega
    have e6 : (((GF.mul a (GF.inv a) : Nat) : Int) != 1) = false := bn (GF.mul_inv ha h0)
    have hia := GF.inv_lt ha
    obtain ⟨hl, he, hs⟩ := GF.log_spec ha h0
    have e7 : (((GF.pow 2 (GF.log a) : Nat) : Int) != (a : Int)) = false := bn (by rw [← GF.ex_eq]; exact he)
    clear he hs
    by_cases b0 : b = 0
    · have B0 : Hid (b = 0) := b0
      have zp : (((GF.mul a b : Nat) : Int) == 0) = true := by rw [beq_iff_eq, b0, GF.mul_zero]; rfl
      have zb : ((b : Int) != 0) = false := by rw [bne_eq_false_iff_eq]; omega
      clear b0
      go_enter Try.func4, Try.ntmps4
      go_wp2_with fail
      refine (mul_any 2 128 (by omega) (by omega) _).mono ?_
      rintro e w' ⟨rfl, rfl⟩
      go_wp2_with fail
      refine (add_any 5 6 (by omega) (by omega) _).mono ?_
      rintro e w' ⟨rfl, rfl⟩
      go_wp2_with fail
      refine (mul_any a b ha hb _).mono ?_
      rintro e w' ⟨rfl, rfl⟩
      go_wp2_with fail
      refine (mul_any b a hb ha _).mono ?_
      rintro e w' ⟨rfl, rfl⟩
      go_wp2_with fail
      refine (mul_any _ c hp hc _).mono ?_
      rintro e w' ⟨rfl, rfl⟩
      go_wp2_with fail
      refine (mul_any b c hb hc _).mono ?_
      rintro e w' ⟨rfl, rfl⟩
      go_wp2_with fail
      refine (mul_any a _ ha hbc _).mono ?_
      rintro e w' ⟨rfl, rfl⟩
      go_wp2_with fail
      refine (add_any b c hb hc _).mono ?_
      rintro e w' ⟨rfl, rfl⟩
      go_wp2_with fail
      refine (mul_any a _ ha hxbc _).mono ?_
      rintro e w' ⟨rfl, rfl⟩
      go_wp2_with fail
      refine (mul_any a c ha hc _).mono ?_
      rintro e w' ⟨rfl, rfl⟩
      go_wp2_with fail
      refine (add_any _ _ hp hac _).mono ?_
      rintro e w' ⟨rfl, rfl⟩
      go_wp2_with fail
      refine (add_any a a ha ha _).mono ?_
      rintro e w' ⟨rfl, rfl⟩
      go_wp2_with fail
      refine (mul_any a 1 ha (by omega) _).mono ?_
      rintro e w' ⟨rfl, rfl⟩
      go_wp2_with fail
      refine (inv_some a ha h0 _).mono ?_
      rintro e w' ⟨rfl, rfl⟩
      go_wp2_with fail
      refine (mul_any a _ ha hia _).mono ?_
      rintro e w' ⟨rfl, rfl⟩
      go_wp2_with fail
      refine (div_zero _ b B0.out _).mono ?_
      rintro e w' ⟨rfl, rfl⟩
      go_wp2_with fail
      refine (log_some a ha h0 _).mono ?_
      rintro e w' ⟨rfl, rfl⟩
      go_wp2_with fail
      refine (pow_some 2 (GF.log a) (by omega) (by omega) _).mono ?_
      rintro e w' ⟨rfl, rfl⟩
      go_wp2_with fail
      all_goals first | (go_ret; exact ⟨rfl, rfl⟩) | skip
      have n0 : 0 ≤ n := by omega
      have m0 : 0 ≤ m := by omega
      have n1 : n ≤ 1000000 := by omega
      have m1 : m ≤ 1000000 := by omega
      obtain ⟨n, rfl⟩ := Int.eq_ofNat_of_zero_le n0
      obtain ⟨m, rfl⟩ := Int.eq_ofNat_of_zero_le m0
      have e9 := bq (GF.pow_add ha n m).symm
      refine (pow_some a n ha (by omega) _).mono ?_
      rintro e w' ⟨rfl, rfl⟩
      go_wp2_with fail
      refine (pow_some a m ha (by omega) _).mono ?_
      rintro e w' ⟨rfl, rfl⟩
      go_wp2_with fail
      rw [show ((n : Int) + (m : Int)) = ((n + m : Nat) : Int) from by omega]
      refine (pow_some a (n + m) ha (by omega) _).mono ?_
      rintro e w' ⟨rfl, rfl⟩
      go_wp2_with fail
      refine (mul_any _ _ (GF.pow_lt ha n) (GF.pow_lt ha m) _).mono ?_
      rintro e w' ⟨rfl, rfl⟩
      go_wp2_with fail
      go_ret
      exact ⟨rfl, rfl⟩
    · have zp : (((GF.mul a b : Nat) : Int) == 0) = false := by
        rw [beq_eq_false_iff_ne]; intro h; rcases GF.mul_eq_zero ha hb (by omega) with h | h <;> contradiction
      have e8 := bn (div_mul ha hb b0)
      go_enter Try.func4, Try.ntmps4
      go_wp2_with fail
      refine (mul_any 2 128 (by omega) (by omega) _).mono ?_
      rintro e w' ⟨rfl, rfl⟩
      go_wp2_with fail
      refine (add_any 5 6 (by omega) (by omega) _).mono ?_
      rintro e w' ⟨rfl, rfl⟩
      go_wp2_with fail
      refine (mul_any a b ha hb _).mono ?_
      rintro e w' ⟨rfl, rfl⟩
      go_wp2_with fail
      refine (mul_any b a hb ha _).mono ?_
      rintro e w' ⟨rfl, rfl⟩
      go_wp2_with fail
      refine (mul_any _ c hp hc _).mono ?_
      rintro e w' ⟨rfl, rfl⟩
      go_wp2_with fail
      refine (mul_any b c hb hc _).mono ?_
      rintro e w' ⟨rfl, rfl⟩
      go_wp2_with fail
      refine (mul_any a _ ha hbc _).mono ?_
      rintro e w' ⟨rfl, rfl⟩
      go_wp2_with fail
      refine (add_any b c hb hc _).mono ?_
      rintro e w' ⟨rfl, rfl⟩
      go_wp2_with fail
      refine (mul_any a _ ha hxbc _).mono ?_
      rintro e w' ⟨rfl, rfl⟩
      go_wp2_with fail
      refine (mul_any a c ha hc _).mono ?_
      rintro e w' ⟨rfl, rfl⟩
      go_wp2_with fail
      refine (add_any _ _ hp hac _).mono ?_
      rintro e w' ⟨rfl, rfl⟩
      go_wp2_with fail
      refine (add_any a a ha ha _).mono ?_
      rintro e w' ⟨rfl, rfl⟩
      go_wp2_with fail
      refine (mul_any a 1 ha (by omega) _).mono ?_
      rintro e w' ⟨rfl, rfl⟩
      go_wp2_with fail
      refine (inv_some a ha h0 _).mono ?_
      rintro e w' ⟨rfl, rfl⟩
      go_wp2_with fail
      refine (mul_any a _ ha hia _).mono ?_
      rintro e w' ⟨rfl, rfl⟩
      go_wp2_with fail
      refine (div_some _ b hp hb b0 _).mono ?_
      rintro e w' ⟨rfl, rfl⟩
      go_wp2_with fail
      refine (log_some a ha h0 _).mono ?_
      rintro e w' ⟨rfl, rfl⟩
      go_wp2_with fail
      refine (pow_some 2 (GF.log a) (by omega) (by omega) _).mono ?_
      rintro e w' ⟨rfl, rfl⟩
      go_wp2_with fail
      all_goals first | (go_ret; exact ⟨rfl, rfl⟩) | skip
      have n0 : 0 ≤ n := by omega
      have m0 : 0 ≤ m := by omega
      have n1 : n ≤ 1000000 := by omega
      have m1 : m ≤ 1000000 := by omega
      obtain ⟨n, rfl⟩ := Int.eq_ofNat_of_zero_le n0
      obtain ⟨m, rfl⟩ := Int.eq_ofNat_of_zero_le m0
      have e9 := bq (GF.pow_add ha n m).symm
      refine (pow_some a n ha (by omega) _).mono ?_
      rintro e w' ⟨rfl, rfl⟩
      go_wp2_with fail
      refine (pow_some a m ha (by omega) _).mono ?_
      rintro e w' ⟨rfl, rfl⟩
      go_wp2_with fail
      rw [show ((n : Int) + (m : Int)) = ((n + m : Nat) : Int) from by omega]
      refine (pow_some a (n + m) ha (by omega) _).mono ?_
      rintro e w' ⟨rfl, rfl⟩
      go_wp2_with fail
      refine (mul_any _ _ (GF.pow_lt ha n) (GF.pow_lt ha m) _).mono ?_
      rintro e w' ⟨rfl, rfl⟩
      go_wp2_with fail
      go_ret
      exact ⟨rfl, rfl⟩
end Go.Proofs.Ytiflbnkfdabppaa
