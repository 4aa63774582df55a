/- The square of a sum is the sum of the squares: the call answers true, whatever bytes it is given. -/
import Derived.Test.YtiflbnkfdabppaaWalks
namespace Go.Proofs.Ytiflbnkfdabppaa
open Go.ChangeShapes Go.WideShapes Go.ChangeAt Go.RowKit
theorem xor_mid (x y z : Nat) : (x ^^^ y) ^^^ (y ^^^ z) = x ^^^ z := by
  rw [Nat.xor_assoc, ← Nat.xor_assoc y y, Nat.xor_self, Nat.zero_xor]
theorem sq_add (a b : Nat) (ha : a < 256) (hb : b < 256) : GF.mul (a ^^^ b) (a ^^^ b) = GF.mul a a ^^^ GF.mul b b := by
  rw [GF.mul_add, GF.mul_add_left a ha hb, GF.mul_add_left b ha hb, GF.mul_comm hb ha, xor_mid]
theorem squares_any (a b : Nat) (ha : a < 256) (hb : b < 256) (w : World) :
    Calls Try.prog 6 #[.int .u8 a, .int .u8 b] w fun e w' => e = .returned (.bool true) ∧ w' = w := by
  have h6 : ((GF.mul 2 3 : Nat) : Int) = 6 := by decide +kernel
  have hab := GF.xor_lt ha hb
  have heq : (((GF.mul (a ^^^ b) (a ^^^ b) : Nat) : Int) == ((GF.mul a a ^^^ GF.mul b b : Nat) : Int)) = true := by rw [beq_iff_eq, sq_add a b ha hb]
  go_enter Try.func6, Try.ntmps6
  go_wp2_with fail
  refine (add_any a b ha hb _).mono ?_
  rintro e w' ⟨rfl, rfl⟩
  go_wp2_with fail
  refine (mul_any 2 3 (by omega) (by omega) _).mono ?_
  rintro e w' ⟨rfl, rfl⟩
  go_wp2_with fail
  refine (mul_any _ _ hab hab _).mono ?_
  rintro e w' ⟨rfl, rfl⟩
  go_wp2_with fail
  refine (mul_any a a ha ha _).mono ?_
  rintro e w' ⟨rfl, rfl⟩
  go_wp2_with fail
  refine (mul_any b b hb hb _).mono ?_
  rintro e w' ⟨rfl, rfl⟩
  go_wp2_with fail
  refine (add_any _ _ (GF.mul_lt a ha) (GF.mul_lt b hb) _).mono ?_
  rintro e w' ⟨rfl, rfl⟩
  go_wp2_with fail
  go_ret
  exact ⟨rfl, rfl⟩
end Go.Proofs.Ytiflbnkfdabppaa
