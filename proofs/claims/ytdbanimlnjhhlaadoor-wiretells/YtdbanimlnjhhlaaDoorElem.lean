/- The elements of the field of 256 as a type of their own (numbers below 256), with the laws of a field, so that no bound need be carried. -/
import Derived.Test.YtdbanimlnjhhlaaDoorField
namespace Go.Proofs.YtdbanimlnjhhlaaDoor
abbrev El := Fin 256
namespace El
def pl (a b : El) : El := ⟨a.val ^^^ b.val, GF.xor_lt a.2 b.2⟩
def ti (a b : El) : El := ⟨GF.mul a.val b.val, GF.mul_lt _ a.2⟩
def iv (a : El) : El := ⟨GF.inv a.val, GF.inv_lt a.2⟩
def pw (a : El) (n : Nat) : El := ⟨GF.pow a.val n, GF.pow_lt a.2 n⟩
theorem pl_comm (a b : El) : pl a b = pl b a := Fin.ext (Nat.xor_comm _ _)
theorem pl_assoc (a b c : El) : pl (pl a b) c = pl a (pl b c) := Fin.ext (Nat.xor_assoc _ _ _)
theorem pl_self (a : El) : pl a a = 0 := Fin.ext (Nat.xor_self _)
theorem pl_zero (a : El) : pl a 0 = a := Fin.ext (Nat.xor_zero _)
theorem zero_pl (a : El) : pl 0 a = a := Fin.ext (Nat.zero_xor _)
theorem ti_comm (a b : El) : ti a b = ti b a := Fin.ext (GF.mul_comm a.2 b.2)
theorem ti_assoc (a b c : El) : ti (ti a b) c = ti a (ti b c) := Fin.ext (GF.mul_assoc _ a.2 b.2)
theorem ti_pl (a b c : El) : ti a (pl b c) = pl (ti a b) (ti a c) := Fin.ext (GF.mul_add _ _ _)
theorem pl_ti (a b c : El) : ti (pl a b) c = pl (ti a c) (ti b c) := Fin.ext (GF.mul_add_left _ a.2 b.2)
theorem ti_one (a : El) : ti a 1 = a := Fin.ext (GF.mul_one _)
theorem one_ti (a : El) : ti 1 a = a := Fin.ext (GF.one_mul a.2)
theorem ti_zero (a : El) : ti a 0 = 0 := Fin.ext (GF.mul_zero _)
theorem zero_ti (a : El) : ti 0 a = 0 := Fin.ext (GF.zero_mul _)
theorem val_ne {a : El} (h : a ≠ 0) : a.val ≠ 0 := fun e => h (Fin.ext e)
theorem ti_iv {a : El} (h : a ≠ 0) : ti a (iv a) = 1 := Fin.ext (GF.mul_inv a.2 (val_ne h))
theorem iv_ti {a : El} (h : a ≠ 0) : ti (iv a) a = 1 := by rw [ti_comm, ti_iv h]
theorem ti_eq_zero {a b : El} (h : ti a b = 0) : a = 0 ∨ b = 0 := by
  rcases GF.mul_eq_zero a.2 b.2 (congrArg Fin.val h) with h | h
  · exact .inl (Fin.ext h)
  · exact .inr (Fin.ext h)
theorem ti_ne_zero {a b : El} (ha : a ≠ 0) (hb : b ≠ 0) : ti a b ≠ 0 := fun h => (ti_eq_zero h).elim ha hb
theorem iv_ne_zero {a : El} (h : a ≠ 0) : iv a ≠ 0 := by
  intro e
  have := ti_iv h
  rw [e, ti_zero] at this
  exact absurd this (by decide)
theorem ti_left_cancel {a b c : El} (ha : a ≠ 0) (h : ti a b = ti a c) : b = c := by
  have e : ∀ x, ti (iv a) (ti a x) = x := fun x => by rw [← ti_assoc, iv_ti ha, one_ti]
  rw [← e b, h, e c]
theorem pl_left_cancel {a b c : El} (h : pl a b = pl a c) : b = c := by
  have e : ∀ x, pl a (pl a x) = x := fun x => by rw [← pl_assoc, pl_self, zero_pl]
  rw [← e b, h, e c]
theorem pl_eq_zero {a b : El} (h : pl a b = 0) : a = b := by
  have : pl a b = pl a a := by rw [h, pl_self]
  exact (pl_left_cancel this).symm
theorem pl_swap (a b c d : El) : pl (pl a b) (pl c d) = pl (pl a c) (pl b d) := Fin.ext (GF.xor_swap _ _ _ _)
theorem pl_pl_self (a b : El) : pl a (pl a b) = b := by rw [← pl_assoc, pl_self, zero_pl]
theorem pl_left_comm (a b c : El) : pl a (pl b c) = pl b (pl a c) := by rw [← pl_assoc, pl_comm a b, pl_assoc]
theorem ti_left_comm (a b c : El) : ti a (ti b c) = ti b (ti a c) := by rw [← ti_assoc, ti_comm a b, ti_assoc]
end El
end Go.Proofs.YtdbanimlnjhhlaaDoor
