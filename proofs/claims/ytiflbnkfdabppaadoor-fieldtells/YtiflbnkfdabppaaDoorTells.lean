/- Of any elements their sum, product, quotient, inverse, any power, and which power of 2 one is, are the document's: the call answers true. -/
import Derived.Test.YtiflbnkfdabppaaDoorWalkI
import Derived.Test.YtiflbnkfdabppaaDoorTold
import Derived.Test.YtiflbnkfdabppaaDoorRefP
import Derived.Test.YtiflbnkfdabppaaDoorWalks
namespace Go.Proofs.YtiflbnkfdabppaaDoor
open Go.ChangeShapes Go.WideShapes Go.ChangeAt Go.RowKit
theorem rpow_two (k : Nat) (hk : k ≤ 255) (w : World) :
    Calls Tryd.prog 9 #[.int .u8 2, .int .i64 k] w fun e w' => e = .returned (.int .u8 ((GF.ex k : Nat) : Int)) ∧ Qt w w' := by
  rw [GF.ex_eq]; exact rpow_any 2 k (by omega) (by omega) w
theorem inv_zero (a : Nat) (h : a = 0) (w : World) :
    Calls Tryd.prog 10 #[.int .u8 a] w fun e w' => e = .returned (.tuple #[.int .u8 0, .iface 37 (.int .i64 5)]) ∧ w' = w := by
  subst h; exact inv_none w
theorem div_zero (a : Int) (b : Nat) (h : b = 0) (w : World) :
    Calls Tryd.prog 13 #[.int .u8 a, .int .u8 b] w fun e w' => e = .returned (.tuple #[.int .u8 0, .iface 37 (.int .i64 5)]) ∧ w' = w := by
  subst h; exact div_none a w
theorem log_zero (a : Nat) (h : a = 0) (w : World) :
    Calls Tryd.prog 12 #[.int .u8 a] w fun e w' => e = .returned (.tuple #[.int .i64 0, .iface 37 (.int .i64 5)]) ∧ w' = w := by
  subst h; exact log_none w
set_option maxRecDepth 100000 in
set_option maxHeartbeats 1000000 in
theorem tells_zero (a b : Nat) (n : Int) (ha : a < 256) (hb : b < 256) (hn1 : n ≤ 9223372036854775807) (h0 : a = 0) (w : World) (hg : Handle w) :
    Calls Tryd.prog 3 #[.int .u8 a, .int .u8 b, .int .i64 n] w fun e w' => e = .returned (.bool true) ∧ Kept w w' := by
  have H0 : Hid (a = 0) := h0
  have z0 : ((a : Int) == 0) = true := by rw [beq_iff_eq]; omega
  clear h0
  by_cases b0 : b = 0
  ·
    have B0 : Hid (b = 0) := b0
    have zb : ((b : Int) == 0) = true := by rw [beq_iff_eq]; omega
    clear b0
    by_cases n0 : n < 0
    ·
      have hk := Kept.refl w
      go_enter Tryd.func3, Tryd.ntmps3
      go_wp2_with fail
      refine (add_any a b ha hb _).mono ?_
      rintro e w1 ⟨rfl, hw⟩
      obtain rfl := hw.symm
      go_wp2_with fail
      refine (plus_any a b ha hb _).mono ?_
      rintro e w1 ⟨rfl, k1⟩
      replace hk := hk.trans (by first | exact k1 | exact k1.kept)
      clear k1
      go_wp2_with fail
      refine (mul_any a b ha hb _).mono ?_
      rintro e w1 ⟨rfl, hw⟩
      obtain rfl := hw.symm
      go_wp2_with fail
      refine (rmul_any a b ha hb _).mono ?_
      rintro e w1 ⟨rfl, k1⟩
      replace hk := hk.trans (by first | exact k1 | exact k1.kept)
      clear k1
      go_wp2_with fail
      refine (inv_zero a H0.out _).mono ?_
      rintro e w1 ⟨rfl, hw⟩
      obtain rfl := hw.symm
      go_wp2_with fail
      refine (error_errno 5 5 _ (hg.kept hk)).mono ?_
      rintro e w1 ⟨rfl, k1⟩
      replace hk := hk.trans (by first | exact k1 | exact k1.kept)
      clear k1
      go_wp2_with fail
      refine (log_zero a H0.out _).mono ?_
      rintro e w1 ⟨rfl, hw⟩
      obtain rfl := hw.symm
      go_wp2_with fail
      refine (error_errno 5 5 _ (hg.kept hk)).mono ?_
      rintro e w1 ⟨rfl, k1⟩
      replace hk := hk.trans (by first | exact k1 | exact k1.kept)
      clear k1
      go_wp2_with fail
      refine (div_zero _ b B0.out _).mono ?_
      rintro e w1 ⟨rfl, hw⟩
      obtain rfl := hw.symm
      go_wp2_with fail
      refine (error_errno 5 5 _ (hg.kept hk)).mono ?_
      rintro e w1 ⟨rfl, k1⟩
      replace hk := hk.trans (by first | exact k1 | exact k1.kept)
      clear k1
      go_wp2_with fail
      refine (pow_below a n n0 _).mono ?_
      rintro e w1 ⟨rfl, hw⟩
      obtain rfl := hw.symm
      go_wp2_with fail
      refine (error_errno 1 1 _ (hg.kept hk)).mono ?_
      rintro e w1 ⟨rfl, k1⟩
      replace hk := hk.trans (by first | exact k1 | exact k1.kept)
      clear k1
      go_wp2_with fail
      go_ret
      exact ⟨rfl, hk⟩
    · obtain ⟨n, rfl⟩ := Int.eq_ofNat_of_zero_le (Int.not_lt.1 n0)
      have hn : n ≤ 9223372036854775807 := by omega
      have hk := Kept.refl w
      go_enter Tryd.func3, Tryd.ntmps3
      go_wp2_with fail
      refine (add_any a b ha hb _).mono ?_
      rintro e w1 ⟨rfl, hw⟩
      obtain rfl := hw.symm
      go_wp2_with fail
      refine (plus_any a b ha hb _).mono ?_
      rintro e w1 ⟨rfl, k1⟩
      replace hk := hk.trans (by first | exact k1 | exact k1.kept)
      clear k1
      go_wp2_with fail
      refine (mul_any a b ha hb _).mono ?_
      rintro e w1 ⟨rfl, hw⟩
      obtain rfl := hw.symm
      go_wp2_with fail
      refine (rmul_any a b ha hb _).mono ?_
      rintro e w1 ⟨rfl, k1⟩
      replace hk := hk.trans (by first | exact k1 | exact k1.kept)
      clear k1
      go_wp2_with fail
      refine (inv_zero a H0.out _).mono ?_
      rintro e w1 ⟨rfl, hw⟩
      obtain rfl := hw.symm
      go_wp2_with fail
      refine (error_errno 5 5 _ (hg.kept hk)).mono ?_
      rintro e w1 ⟨rfl, k1⟩
      replace hk := hk.trans (by first | exact k1 | exact k1.kept)
      clear k1
      go_wp2_with fail
      refine (log_zero a H0.out _).mono ?_
      rintro e w1 ⟨rfl, hw⟩
      obtain rfl := hw.symm
      go_wp2_with fail
      refine (error_errno 5 5 _ (hg.kept hk)).mono ?_
      rintro e w1 ⟨rfl, k1⟩
      replace hk := hk.trans (by first | exact k1 | exact k1.kept)
      clear k1
      go_wp2_with fail
      refine (div_zero _ b B0.out _).mono ?_
      rintro e w1 ⟨rfl, hw⟩
      obtain rfl := hw.symm
      go_wp2_with fail
      refine (error_errno 5 5 _ (hg.kept hk)).mono ?_
      rintro e w1 ⟨rfl, k1⟩
      replace hk := hk.trans (by first | exact k1 | exact k1.kept)
      clear k1
      go_wp2_with fail
      refine (rpow_any a n ha hn _).mono ?_
      rintro e w1 ⟨rfl, k1⟩
      replace hk := hk.trans (by first | exact k1 | exact k1.kept)
      clear k1
      go_wp2_with fail
      refine (pow_some a n ha hn _).mono ?_
      rintro e w1 ⟨rfl, hw⟩
      obtain rfl := hw.symm
      go_wp2_with fail
      refine (error_nil 0 _).mono ?_
      rintro e w1 ⟨rfl, hw⟩
      obtain rfl := hw.symm
      go_wp2_with fail
      go_ret
      exact ⟨rfl, hk⟩
  ·
    have zb : ((b : Int) == 0) = false := by rw [beq_eq_false_iff_ne]; omega
    by_cases n0 : n < 0
    ·
      have hk := Kept.refl w
      go_enter Tryd.func3, Tryd.ntmps3
      go_wp2_with fail
      refine (add_any a b ha hb _).mono ?_
      rintro e w1 ⟨rfl, hw⟩
      obtain rfl := hw.symm
      go_wp2_with fail
      refine (plus_any a b ha hb _).mono ?_
      rintro e w1 ⟨rfl, k1⟩
      replace hk := hk.trans (by first | exact k1 | exact k1.kept)
      clear k1
      go_wp2_with fail
      refine (mul_any a b ha hb _).mono ?_
      rintro e w1 ⟨rfl, hw⟩
      obtain rfl := hw.symm
      go_wp2_with fail
      refine (rmul_any a b ha hb _).mono ?_
      rintro e w1 ⟨rfl, k1⟩
      replace hk := hk.trans (by first | exact k1 | exact k1.kept)
      clear k1
      go_wp2_with fail
      refine (inv_zero a H0.out _).mono ?_
      rintro e w1 ⟨rfl, hw⟩
      obtain rfl := hw.symm
      go_wp2_with fail
      refine (error_errno 5 5 _ (hg.kept hk)).mono ?_
      rintro e w1 ⟨rfl, k1⟩
      replace hk := hk.trans (by first | exact k1 | exact k1.kept)
      clear k1
      go_wp2_with fail
      refine (log_zero a H0.out _).mono ?_
      rintro e w1 ⟨rfl, hw⟩
      obtain rfl := hw.symm
      go_wp2_with fail
      refine (error_errno 5 5 _ (hg.kept hk)).mono ?_
      rintro e w1 ⟨rfl, k1⟩
      replace hk := hk.trans (by first | exact k1 | exact k1.kept)
      clear k1
      go_wp2_with fail
      refine (rinv_any b hb b0 _).mono ?_
      rintro e w1 ⟨rfl, k1⟩
      replace hk := hk.trans (by first | exact k1 | exact k1.kept)
      clear k1
      go_wp2_with fail
      refine (rmul_any a _ ha (GF.inv_lt hb) _).mono ?_
      rintro e w1 ⟨rfl, k1⟩
      replace hk := hk.trans (by first | exact k1 | exact k1.kept)
      clear k1
      go_wp2_with fail
      refine (div_some a b ha hb b0 _).mono ?_
      rintro e w1 ⟨rfl, hw⟩
      obtain rfl := hw.symm
      go_wp2_with fail
      refine (error_nil 0 _).mono ?_
      rintro e w1 ⟨rfl, hw⟩
      obtain rfl := hw.symm
      go_wp2_with fail
      refine (pow_below a n n0 _).mono ?_
      rintro e w1 ⟨rfl, hw⟩
      obtain rfl := hw.symm
      go_wp2_with fail
      refine (error_errno 1 1 _ (hg.kept hk)).mono ?_
      rintro e w1 ⟨rfl, k1⟩
      replace hk := hk.trans (by first | exact k1 | exact k1.kept)
      clear k1
      go_wp2_with fail
      go_ret
      exact ⟨rfl, hk⟩
    · obtain ⟨n, rfl⟩ := Int.eq_ofNat_of_zero_le (Int.not_lt.1 n0)
      have hn : n ≤ 9223372036854775807 := by omega
      have hk := Kept.refl w
      go_enter Tryd.func3, Tryd.ntmps3
      go_wp2_with fail
      refine (add_any a b ha hb _).mono ?_
      rintro e w1 ⟨rfl, hw⟩
      obtain rfl := hw.symm
      go_wp2_with fail
      refine (plus_any a b ha hb _).mono ?_
      rintro e w1 ⟨rfl, k1⟩
      replace hk := hk.trans (by first | exact k1 | exact k1.kept)
      clear k1
      go_wp2_with fail
      refine (mul_any a b ha hb _).mono ?_
      rintro e w1 ⟨rfl, hw⟩
      obtain rfl := hw.symm
      go_wp2_with fail
      refine (rmul_any a b ha hb _).mono ?_
      rintro e w1 ⟨rfl, k1⟩
      replace hk := hk.trans (by first | exact k1 | exact k1.kept)
      clear k1
      go_wp2_with fail
      refine (inv_zero a H0.out _).mono ?_
      rintro e w1 ⟨rfl, hw⟩
      obtain rfl := hw.symm
      go_wp2_with fail
      refine (error_errno 5 5 _ (hg.kept hk)).mono ?_
      rintro e w1 ⟨rfl, k1⟩
      replace hk := hk.trans (by first | exact k1 | exact k1.kept)
      clear k1
      go_wp2_with fail
      refine (log_zero a H0.out _).mono ?_
      rintro e w1 ⟨rfl, hw⟩
      obtain rfl := hw.symm
      go_wp2_with fail
      refine (error_errno 5 5 _ (hg.kept hk)).mono ?_
      rintro e w1 ⟨rfl, k1⟩
      replace hk := hk.trans (by first | exact k1 | exact k1.kept)
      clear k1
      go_wp2_with fail
      refine (rinv_any b hb b0 _).mono ?_
      rintro e w1 ⟨rfl, k1⟩
      replace hk := hk.trans (by first | exact k1 | exact k1.kept)
      clear k1
      go_wp2_with fail
      refine (rmul_any a _ ha (GF.inv_lt hb) _).mono ?_
      rintro e w1 ⟨rfl, k1⟩
      replace hk := hk.trans (by first | exact k1 | exact k1.kept)
      clear k1
      go_wp2_with fail
      refine (div_some a b ha hb b0 _).mono ?_
      rintro e w1 ⟨rfl, hw⟩
      obtain rfl := hw.symm
      go_wp2_with fail
      refine (error_nil 0 _).mono ?_
      rintro e w1 ⟨rfl, hw⟩
      obtain rfl := hw.symm
      go_wp2_with fail
      refine (rpow_any a n ha hn _).mono ?_
      rintro e w1 ⟨rfl, k1⟩
      replace hk := hk.trans (by first | exact k1 | exact k1.kept)
      clear k1
      go_wp2_with fail
      refine (pow_some a n ha hn _).mono ?_
      rintro e w1 ⟨rfl, hw⟩
      obtain rfl := hw.symm
      go_wp2_with fail
      refine (error_nil 0 _).mono ?_
      rintro e w1 ⟨rfl, hw⟩
      obtain rfl := hw.symm
      go_wp2_with fail
      go_ret
      exact ⟨rfl, hk⟩
set_option maxRecDepth 100000 in
set_option maxHeartbeats 1000000 in
theorem tells_zn (a b : Nat) (n : Int) (ha : a < 256) (hb : b < 256) (h0 : a ≠ 0) (b0 : b = 0) (n0 : n < 0) (w : World) (hg : Handle w) :
    Calls Tryd.prog 3 #[.int .u8 a, .int .u8 b, .int .i64 n] w fun e w' => e = .returned (.bool true) ∧ Kept w w' := by
  have B0 : Hid (b = 0) := b0
  have zb : ((b : Int) == 0) = true := by rw [beq_iff_eq]; omega
  clear b0
  have z0 : ((a : Int) == 0) = false := by rw [beq_eq_false_iff_ne]; omega
  obtain ⟨hl, he, hs⟩ := GF.log_spec ha h0
  have HE : Hid (GF.ex (GF.log a) = a) := he
  have HS : Hid (∀ j, j < GF.log a → GF.ex j ≠ a) := hs
  clear he hs
  have hk := Kept.refl w
  go_enter Tryd.func3, Tryd.ntmps3
  go_wp2_with fail
  refine (add_any a b ha hb _).mono ?_
  rintro e w1 ⟨rfl, hw⟩
  obtain rfl := hw.symm
  go_wp2_with fail
  refine (plus_any a b ha hb _).mono ?_
  rintro e w1 ⟨rfl, k1⟩
  replace hk := hk.trans (by first | exact k1 | exact k1.kept)
  clear k1
  go_wp2_with fail
  refine (mul_any a b ha hb _).mono ?_
  rintro e w1 ⟨rfl, hw⟩
  obtain rfl := hw.symm
  go_wp2_with fail
  refine (rmul_any a b ha hb _).mono ?_
  rintro e w1 ⟨rfl, k1⟩
  replace hk := hk.trans (by first | exact k1 | exact k1.kept)
  clear k1
  go_wp2_with fail
  refine (rinv_any a ha h0 _).mono ?_
  rintro e w1 ⟨rfl, k1⟩
  replace hk := hk.trans (by first | exact k1 | exact k1.kept)
  clear k1
  go_wp2_with fail
  go_loopw [10] (fun t wr => ∃ k : Nat, k ≤ GF.log a ∧ t = .int .i64 k ∧ Kept w wr) (fun t _ => (255 - intOf t).toNat)
  case atStart => exact ⟨0, by omega, rfl, hk⟩
  case round =>
    clear hk
    obtain ⟨k, hkl, rfl, hk⟩ := hrel
    by_cases hlt : k < GF.log a
    · have hne : (((GF.ex k : Nat) : Int) != (a : Int)) = true := by rw [bne_iff_ne]; have := HS.out k hlt; omega
      go_wp2_with fail
      refine (rpow_two k (by omega) _).mono ?_
      rintro e w1 ⟨rfl, k1⟩
      replace hk := hk.trans (by first | exact k1 | exact k1.kept)
      clear k1
      go_wp2_with fail
      exact ⟨⟨k + 1, by omega, by go_num, hk⟩, by simp [intOf]; omega⟩
    · have hke : k = GF.log a := by omega
      have hne : (((GF.ex k : Nat) : Int) != (a : Int)) = false := by rw [bne_eq_false_iff_eq, hke, HE.out]
      have heq : (((GF.log a : Nat) : Int) == (k : Int)) = true := by rw [beq_iff_eq, hke]
      clear hke
      go_wp2_with fail
      refine (rpow_two k (by omega) _).mono ?_
      rintro e w1 ⟨rfl, k1⟩
      replace hk := hk.trans (by first | exact k1 | exact k1.kept)
      clear k1
      go_wp2_with fail
      refine (inv_some a ha h0 _).mono ?_
      rintro e w1 ⟨rfl, hw⟩
      obtain rfl := hw.symm
      go_wp2_with fail
      refine (error_nil 0 _).mono ?_
      rintro e w1 ⟨rfl, hw⟩
      obtain rfl := hw.symm
      go_wp2_with fail
      refine (log_some a ha h0 _).mono ?_
      rintro e w1 ⟨rfl, hw⟩
      obtain rfl := hw.symm
      go_wp2_with fail
      refine (error_nil 0 _).mono ?_
      rintro e w1 ⟨rfl, hw⟩
      obtain rfl := hw.symm
      go_wp2_with fail
      refine (div_zero _ b B0.out _).mono ?_
      rintro e w1 ⟨rfl, hw⟩
      obtain rfl := hw.symm
      go_wp2_with fail
      refine (error_errno 5 5 _ (hg.kept hk)).mono ?_
      rintro e w1 ⟨rfl, k1⟩
      replace hk := hk.trans (by first | exact k1 | exact k1.kept)
      clear k1
      go_wp2_with fail
      refine (pow_below a n n0 _).mono ?_
      rintro e w1 ⟨rfl, hw⟩
      obtain rfl := hw.symm
      go_wp2_with fail
      refine (error_errno 1 1 _ (hg.kept hk)).mono ?_
      rintro e w1 ⟨rfl, k1⟩
      replace hk := hk.trans (by first | exact k1 | exact k1.kept)
      clear k1
      go_wp2_with fail
      go_ret
      exact ⟨rfl, hk⟩
set_option maxRecDepth 100000 in
set_option maxHeartbeats 1000000 in
theorem tells_zs (a b n : Nat) (ha : a < 256) (hb : b < 256) (h0 : a ≠ 0) (b0 : b = 0) (hn : n ≤ 9223372036854775807) (w : World) (hg : Handle w) :
    Calls Tryd.prog 3 #[.int .u8 a, .int .u8 b, .int .i64 n] w fun e w' => e = .returned (.bool true) ∧ Kept w w' := by
  have n0 : ¬ (n : Int) < 0 := by omega
  have B0 : Hid (b = 0) := b0
  have zb : ((b : Int) == 0) = true := by rw [beq_iff_eq]; omega
  clear b0
  have z0 : ((a : Int) == 0) = false := by rw [beq_eq_false_iff_ne]; omega
  obtain ⟨hl, he, hs⟩ := GF.log_spec ha h0
  have HE : Hid (GF.ex (GF.log a) = a) := he
  have HS : Hid (∀ j, j < GF.log a → GF.ex j ≠ a) := hs
  clear he hs
  have hk := Kept.refl w
  go_enter Tryd.func3, Tryd.ntmps3
  go_wp2_with fail
  refine (add_any a b ha hb _).mono ?_
  rintro e w1 ⟨rfl, hw⟩
  obtain rfl := hw.symm
  go_wp2_with fail
  refine (plus_any a b ha hb _).mono ?_
  rintro e w1 ⟨rfl, k1⟩
  replace hk := hk.trans (by first | exact k1 | exact k1.kept)
  clear k1
  go_wp2_with fail
  refine (mul_any a b ha hb _).mono ?_
  rintro e w1 ⟨rfl, hw⟩
  obtain rfl := hw.symm
  go_wp2_with fail
  refine (rmul_any a b ha hb _).mono ?_
  rintro e w1 ⟨rfl, k1⟩
  replace hk := hk.trans (by first | exact k1 | exact k1.kept)
  clear k1
  go_wp2_with fail
  refine (rinv_any a ha h0 _).mono ?_
  rintro e w1 ⟨rfl, k1⟩
  replace hk := hk.trans (by first | exact k1 | exact k1.kept)
  clear k1
  go_wp2_with fail
  go_loopw [10] (fun t wr => ∃ k : Nat, k ≤ GF.log a ∧ t = .int .i64 k ∧ Kept w wr) (fun t _ => (255 - intOf t).toNat)
  case atStart => exact ⟨0, by omega, rfl, hk⟩
  case round =>
    clear hk
    obtain ⟨k, hkl, rfl, hk⟩ := hrel
    by_cases hlt : k < GF.log a
    · have hne : (((GF.ex k : Nat) : Int) != (a : Int)) = true := by rw [bne_iff_ne]; have := HS.out k hlt; omega
      go_wp2_with fail
      refine (rpow_two k (by omega) _).mono ?_
      rintro e w1 ⟨rfl, k1⟩
      replace hk := hk.trans (by first | exact k1 | exact k1.kept)
      clear k1
      go_wp2_with fail
      exact ⟨⟨k + 1, by omega, by go_num, hk⟩, by simp [intOf]; omega⟩
    · have hke : k = GF.log a := by omega
      have hne : (((GF.ex k : Nat) : Int) != (a : Int)) = false := by rw [bne_eq_false_iff_eq, hke, HE.out]
      have heq : (((GF.log a : Nat) : Int) == (k : Int)) = true := by rw [beq_iff_eq, hke]
      clear hke
      go_wp2_with fail
      refine (rpow_two k (by omega) _).mono ?_
      rintro e w1 ⟨rfl, k1⟩
      replace hk := hk.trans (by first | exact k1 | exact k1.kept)
      clear k1
      go_wp2_with fail
      refine (inv_some a ha h0 _).mono ?_
      rintro e w1 ⟨rfl, hw⟩
      obtain rfl := hw.symm
      go_wp2_with fail
      refine (error_nil 0 _).mono ?_
      rintro e w1 ⟨rfl, hw⟩
      obtain rfl := hw.symm
      go_wp2_with fail
      refine (log_some a ha h0 _).mono ?_
      rintro e w1 ⟨rfl, hw⟩
      obtain rfl := hw.symm
      go_wp2_with fail
      refine (error_nil 0 _).mono ?_
      rintro e w1 ⟨rfl, hw⟩
      obtain rfl := hw.symm
      go_wp2_with fail
      refine (div_zero _ b B0.out _).mono ?_
      rintro e w1 ⟨rfl, hw⟩
      obtain rfl := hw.symm
      go_wp2_with fail
      refine (error_errno 5 5 _ (hg.kept hk)).mono ?_
      rintro e w1 ⟨rfl, k1⟩
      replace hk := hk.trans (by first | exact k1 | exact k1.kept)
      clear k1
      go_wp2_with fail
      refine (rpow_any a n ha hn _).mono ?_
      rintro e w1 ⟨rfl, k1⟩
      replace hk := hk.trans (by first | exact k1 | exact k1.kept)
      clear k1
      go_wp2_with fail
      refine (pow_some a n ha hn _).mono ?_
      rintro e w1 ⟨rfl, hw⟩
      obtain rfl := hw.symm
      go_wp2_with fail
      refine (error_nil 0 _).mono ?_
      rintro e w1 ⟨rfl, hw⟩
      obtain rfl := hw.symm
      go_wp2_with fail
      go_ret
      exact ⟨rfl, hk⟩
set_option maxRecDepth 100000 in
set_option maxHeartbeats 1000000 in
theorem tells_sn (a b : Nat) (n : Int) (ha : a < 256) (hb : b < 256) (h0 : a ≠ 0) (b0 : b ≠ 0) (n0 : n < 0) (w : World) (hg : Handle w) :
    Calls Tryd.prog 3 #[.int .u8 a, .int .u8 b, .int .i64 n] w fun e w' => e = .returned (.bool true) ∧ Kept w w' := by
  have zb : ((b : Int) == 0) = false := by rw [beq_eq_false_iff_ne]; omega
  have z0 : ((a : Int) == 0) = false := by rw [beq_eq_false_iff_ne]; omega
  obtain ⟨hl, he, hs⟩ := GF.log_spec ha h0
  have HE : Hid (GF.ex (GF.log a) = a) := he
  have HS : Hid (∀ j, j < GF.log a → GF.ex j ≠ a) := hs
  clear he hs
  have hk := Kept.refl w
  go_enter Tryd.func3, Tryd.ntmps3
  go_wp2_with fail
  refine (add_any a b ha hb _).mono ?_
  rintro e w1 ⟨rfl, hw⟩
  obtain rfl := hw.symm
  go_wp2_with fail
  refine (plus_any a b ha hb _).mono ?_
  rintro e w1 ⟨rfl, k1⟩
  replace hk := hk.trans (by first | exact k1 | exact k1.kept)
  clear k1
  go_wp2_with fail
  refine (mul_any a b ha hb _).mono ?_
  rintro e w1 ⟨rfl, hw⟩
  obtain rfl := hw.symm
  go_wp2_with fail
  refine (rmul_any a b ha hb _).mono ?_
  rintro e w1 ⟨rfl, k1⟩
  replace hk := hk.trans (by first | exact k1 | exact k1.kept)
  clear k1
  go_wp2_with fail
  refine (rinv_any a ha h0 _).mono ?_
  rintro e w1 ⟨rfl, k1⟩
  replace hk := hk.trans (by first | exact k1 | exact k1.kept)
  clear k1
  go_wp2_with fail
  go_loopw [10] (fun t wr => ∃ k : Nat, k ≤ GF.log a ∧ t = .int .i64 k ∧ Kept w wr) (fun t _ => (255 - intOf t).toNat)
  case atStart => exact ⟨0, by omega, rfl, hk⟩
  case round =>
    clear hk
    obtain ⟨k, hkl, rfl, hk⟩ := hrel
    by_cases hlt : k < GF.log a
    · have hne : (((GF.ex k : Nat) : Int) != (a : Int)) = true := by rw [bne_iff_ne]; have := HS.out k hlt; omega
      go_wp2_with fail
      refine (rpow_two k (by omega) _).mono ?_
      rintro e w1 ⟨rfl, k1⟩
      replace hk := hk.trans (by first | exact k1 | exact k1.kept)
      clear k1
      go_wp2_with fail
      exact ⟨⟨k + 1, by omega, by go_num, hk⟩, by simp [intOf]; omega⟩
    · have hke : k = GF.log a := by omega
      have hne : (((GF.ex k : Nat) : Int) != (a : Int)) = false := by rw [bne_eq_false_iff_eq, hke, HE.out]
      have heq : (((GF.log a : Nat) : Int) == (k : Int)) = true := by rw [beq_iff_eq, hke]
      clear hke
      go_wp2_with fail
      refine (rpow_two k (by omega) _).mono ?_
      rintro e w1 ⟨rfl, k1⟩
      replace hk := hk.trans (by first | exact k1 | exact k1.kept)
      clear k1
      go_wp2_with fail
      refine (inv_some a ha h0 _).mono ?_
      rintro e w1 ⟨rfl, hw⟩
      obtain rfl := hw.symm
      go_wp2_with fail
      refine (error_nil 0 _).mono ?_
      rintro e w1 ⟨rfl, hw⟩
      obtain rfl := hw.symm
      go_wp2_with fail
      refine (log_some a ha h0 _).mono ?_
      rintro e w1 ⟨rfl, hw⟩
      obtain rfl := hw.symm
      go_wp2_with fail
      refine (error_nil 0 _).mono ?_
      rintro e w1 ⟨rfl, hw⟩
      obtain rfl := hw.symm
      go_wp2_with fail
      refine (rinv_any b hb b0 _).mono ?_
      rintro e w1 ⟨rfl, k1⟩
      replace hk := hk.trans (by first | exact k1 | exact k1.kept)
      clear k1
      go_wp2_with fail
      refine (rmul_any a _ ha (GF.inv_lt hb) _).mono ?_
      rintro e w1 ⟨rfl, k1⟩
      replace hk := hk.trans (by first | exact k1 | exact k1.kept)
      clear k1
      go_wp2_with fail
      refine (div_some a b ha hb b0 _).mono ?_
      rintro e w1 ⟨rfl, hw⟩
      obtain rfl := hw.symm
      go_wp2_with fail
      refine (error_nil 0 _).mono ?_
      rintro e w1 ⟨rfl, hw⟩
      obtain rfl := hw.symm
      go_wp2_with fail
      refine (pow_below a n n0 _).mono ?_
      rintro e w1 ⟨rfl, hw⟩
      obtain rfl := hw.symm
      go_wp2_with fail
      refine (error_errno 1 1 _ (hg.kept hk)).mono ?_
      rintro e w1 ⟨rfl, k1⟩
      replace hk := hk.trans (by first | exact k1 | exact k1.kept)
      clear k1
      go_wp2_with fail
      go_ret
      exact ⟨rfl, hk⟩
set_option maxRecDepth 100000 in
set_option maxHeartbeats 1000000 in
theorem tells_ss (a b n : Nat) (ha : a < 256) (hb : b < 256) (h0 : a ≠ 0) (b0 : b ≠ 0) (hn : n ≤ 9223372036854775807) (w : World) :
    Calls Tryd.prog 3 #[.int .u8 a, .int .u8 b, .int .i64 n] w fun e w' => e = .returned (.bool true) ∧ Kept w w' := by
  have n0 : ¬ (n : Int) < 0 := by omega
  have zb : ((b : Int) == 0) = false := by rw [beq_eq_false_iff_ne]; omega
  have z0 : ((a : Int) == 0) = false := by rw [beq_eq_false_iff_ne]; omega
  obtain ⟨hl, he, hs⟩ := GF.log_spec ha h0
  have HE : Hid (GF.ex (GF.log a) = a) := he
  have HS : Hid (∀ j, j < GF.log a → GF.ex j ≠ a) := hs
  clear he hs
  have hk := Kept.refl w
  go_enter Tryd.func3, Tryd.ntmps3
  go_wp2_with fail
  refine (add_any a b ha hb _).mono ?_
  rintro e w1 ⟨rfl, hw⟩
  obtain rfl := hw.symm
  go_wp2_with fail
  refine (plus_any a b ha hb _).mono ?_
  rintro e w1 ⟨rfl, k1⟩
  replace hk := hk.trans (by first | exact k1 | exact k1.kept)
  clear k1
  go_wp2_with fail
  refine (mul_any a b ha hb _).mono ?_
  rintro e w1 ⟨rfl, hw⟩
  obtain rfl := hw.symm
  go_wp2_with fail
  refine (rmul_any a b ha hb _).mono ?_
  rintro e w1 ⟨rfl, k1⟩
  replace hk := hk.trans (by first | exact k1 | exact k1.kept)
  clear k1
  go_wp2_with fail
  refine (rinv_any a ha h0 _).mono ?_
  rintro e w1 ⟨rfl, k1⟩
  replace hk := hk.trans (by first | exact k1 | exact k1.kept)
  clear k1
  go_wp2_with fail
  go_loopw [10] (fun t wr => ∃ k : Nat, k ≤ GF.log a ∧ t = .int .i64 k ∧ Kept w wr) (fun t _ => (255 - intOf t).toNat)
  case atStart => exact ⟨0, by omega, rfl, hk⟩
  case round =>
    clear hk
    obtain ⟨k, hkl, rfl, hk⟩ := hrel
    by_cases hlt : k < GF.log a
    · have hne : (((GF.ex k : Nat) : Int) != (a : Int)) = true := by rw [bne_iff_ne]; have := HS.out k hlt; omega
      go_wp2_with fail
      refine (rpow_two k (by omega) _).mono ?_
      rintro e w1 ⟨rfl, k1⟩
      replace hk := hk.trans (by first | exact k1 | exact k1.kept)
      clear k1
      go_wp2_with fail
      exact ⟨⟨k + 1, by omega, by go_num, hk⟩, by simp [intOf]; omega⟩
    · have hke : k = GF.log a := by omega
      have hne : (((GF.ex k : Nat) : Int) != (a : Int)) = false := by rw [bne_eq_false_iff_eq, hke, HE.out]
      have heq : (((GF.log a : Nat) : Int) == (k : Int)) = true := by rw [beq_iff_eq, hke]
      clear hke
      go_wp2_with fail
      refine (rpow_two k (by omega) _).mono ?_
      rintro e w1 ⟨rfl, k1⟩
      replace hk := hk.trans (by first | exact k1 | exact k1.kept)
      clear k1
      go_wp2_with fail
      refine (inv_some a ha h0 _).mono ?_
      rintro e w1 ⟨rfl, hw⟩
      obtain rfl := hw.symm
      go_wp2_with fail
      refine (error_nil 0 _).mono ?_
      rintro e w1 ⟨rfl, hw⟩
      obtain rfl := hw.symm
      go_wp2_with fail
      refine (log_some a ha h0 _).mono ?_
      rintro e w1 ⟨rfl, hw⟩
      obtain rfl := hw.symm
      go_wp2_with fail
      refine (error_nil 0 _).mono ?_
      rintro e w1 ⟨rfl, hw⟩
      obtain rfl := hw.symm
      go_wp2_with fail
      refine (rinv_any b hb b0 _).mono ?_
      rintro e w1 ⟨rfl, k1⟩
      replace hk := hk.trans (by first | exact k1 | exact k1.kept)
      clear k1
      go_wp2_with fail
      refine (rmul_any a _ ha (GF.inv_lt hb) _).mono ?_
      rintro e w1 ⟨rfl, k1⟩
      replace hk := hk.trans (by first | exact k1 | exact k1.kept)
      clear k1
      go_wp2_with fail
      refine (div_some a b ha hb b0 _).mono ?_
      rintro e w1 ⟨rfl, hw⟩
      obtain rfl := hw.symm
      go_wp2_with fail
      refine (error_nil 0 _).mono ?_
      rintro e w1 ⟨rfl, hw⟩
      obtain rfl := hw.symm
      go_wp2_with fail
      refine (rpow_any a n ha hn _).mono ?_
      rintro e w1 ⟨rfl, k1⟩
      replace hk := hk.trans (by first | exact k1 | exact k1.kept)
      clear k1
      go_wp2_with fail
      refine (pow_some a n ha hn _).mono ?_
      rintro e w1 ⟨rfl, hw⟩
      obtain rfl := hw.symm
      go_wp2_with fail
      refine (error_nil 0 _).mono ?_
      rintro e w1 ⟨rfl, hw⟩
      obtain rfl := hw.symm
      go_wp2_with fail
      go_ret
      exact ⟨rfl, hk⟩
theorem tells_any (a b : Nat) (n : Int) (ha : a < 256) (hb : b < 256) (hn1 : n ≤ 9223372036854775807) (w : World) (hg : Handle w) :
    Calls Tryd.prog 3 #[.int .u8 a, .int .u8 b, .int .i64 n] w fun e w' => e = .returned (.bool true) ∧ Kept w w' := by
  by_cases h0 : a = 0
  · exact tells_zero a b n ha hb hn1 h0 w hg
  · by_cases b0 : b = 0
    · by_cases n0 : n < 0
      · exact tells_zn a b n ha hb h0 b0 n0 w hg
      · obtain ⟨n, rfl⟩ := Int.eq_ofNat_of_zero_le (Int.not_lt.1 n0)
        exact tells_zs a b n ha hb h0 b0 (by omega) w hg
    · by_cases n0 : n < 0
      · exact tells_sn a b n ha hb h0 b0 n0 w hg
      · obtain ⟨n, rfl⟩ := Int.eq_ofNat_of_zero_le (Int.not_lt.1 n0)
        exact tells_ss a b n ha hb h0 b0 (by omega) w
end Go.Proofs.YtiflbnkfdabppaaDoor
