/- The document's own product of two bytes, as plain numbers: it is the product of the field (both add up; looked at at 1, 2, 4 .. 128). -/
import Derived.Test.YtikhjhbohkaajaaDoorField
namespace Go.Proofs.YtikhjhbohkaajaaDoor.GF
/-- the product without taking away, r rounds -/
def cl : Nat → Nat → Nat → Nat → Nat
  | 0, n, _, _ => n
  | r + 1, n, x, y => cl r (bif Nat.beq (y % 2) 1 then Nat.xor n x else n) (2 * x) (y / 2)
/-- what is beyond is taken away, r rounds -/
def rd : Nat → Nat → Nat → Nat → Nat
  | 0, n, _, _ => n
  | r + 1, n, k, rule => rd r (bif Nat.beq (n / k % 2) 1 then Nat.xor n rule else n) (k / 2) (rule / 2)
theorem cl_add (r : Nat) : ∀ n n' x y y', cl r (n ^^^ n') x (y ^^^ y') = cl r n x y ^^^ cl r n' x y' := by
  induction r with
  | zero => intros; rfl
  | succ r ih =>
    intro n n' x y y'
    simp only [cl]
    rw [xor_div2, ← ih]
    congr 1
    rw [xor_mod2]
    rcases Nat.mod_two_eq_zero_or_one y with h | h <;> rcases Nat.mod_two_eq_zero_or_one y' with h' | h' <;> rw [h, h']
    · rfl
    · show (n ^^^ n') ^^^ x = n ^^^ (n' ^^^ x); rw [Nat.xor_assoc]
    · show (n ^^^ n') ^^^ x = (n ^^^ x) ^^^ n'; rw [Nat.xor_assoc, Nat.xor_assoc, Nat.xor_comm n' x]
    · show n ^^^ n' = (n ^^^ x) ^^^ (n' ^^^ x); rw [xor_swap, Nat.xor_self, Nat.xor_zero]
theorem bit_sum (a b i : Nat) : (a ^^^ b) / 2 ^ i % 2 = (a / 2 ^ i % 2 + b / 2 ^ i % 2) % 2 := by
  have h := Nat.testBit_xor a b i
  simp only [Nat.testBit_eq_decide_div_mod_eq] at h
  have h1 := Nat.mod_two_eq_zero_or_one (a / 2 ^ i)
  have h2 := Nat.mod_two_eq_zero_or_one (b / 2 ^ i)
  have h3 := Nat.mod_two_eq_zero_or_one ((a ^^^ b) / 2 ^ i)
  rcases h1 with h1 | h1 <;> rcases h2 with h2 | h2 <;> rcases h3 with h3 | h3 <;> simp_all
theorem rd_add (r : Nat) : ∀ j n n' rule, r ≤ j → rd r (n ^^^ n') (2 ^ j) rule = rd r n (2 ^ j) rule ^^^ rd r n' (2 ^ j) rule := by
  induction r with
  | zero => intros; rfl
  | succ r ih =>
    intro j n n' rule hj
    obtain ⟨j, rfl⟩ : ∃ k, j = k + 1 := ⟨j - 1, by omega⟩
    simp only [rd]
    have e : 2 ^ (j + 1) / 2 = 2 ^ j := by rw [Nat.pow_succ]; omega
    rw [e, ← ih _ _ _ _ (by omega)]
    congr 1
    rw [bit_sum]
    rcases Nat.mod_two_eq_zero_or_one (n / 2 ^ (j + 1)) with h | h <;> rcases Nat.mod_two_eq_zero_or_one (n' / 2 ^ (j + 1)) with h' | h' <;> rw [h, h']
    · rfl
    · show (n ^^^ n') ^^^ rule = n ^^^ (n' ^^^ rule); rw [Nat.xor_assoc]
    · show (n ^^^ n') ^^^ rule = (n ^^^ rule) ^^^ n'; rw [Nat.xor_assoc, Nat.xor_assoc, Nat.xor_comm n' rule]
    · show n ^^^ n' = (n ^^^ rule) ^^^ (n' ^^^ rule); rw [xor_swap, Nat.xor_self, Nat.xor_zero]
theorem rmul_all : all (fun a => all (fun i => Nat.beq (rd 8 (cl 8 0 a (2 ^ i)) (2 ^ 15) 36480) (mul a (2 ^ i))) 8) 256 = true := by decide +kernel
theorem rmul_add (a x y : Nat) : rd 8 (cl 8 0 a (x ^^^ y)) (2 ^ 15) 36480 = rd 8 (cl 8 0 a x) (2 ^ 15) 36480 ^^^ rd 8 (cl 8 0 a y) (2 ^ 15) 36480 := by
  have e : cl 8 0 a (x ^^^ y) = cl 8 0 a x ^^^ cl 8 0 a y := by have := cl_add 8 0 0 a x y; rwa [Nat.xor_self] at this
  rw [e, rd_add 8 15 _ _ _ (by omega)]
theorem rmul15 {a b : Nat} (ha : a < 256) (hb : b < 256) : rd 8 (cl 8 0 a b) (2 ^ 15) 36480 = mul a b :=
  by_bits (f := fun b => rd 8 (cl 8 0 a b) (2 ^ 15) 36480) (g := fun b => mul a b)
    (fun x y _ _ => rmul_add a x y) (fun x y _ _ => mul_add a x y)
    (fun i hi => Nat.eq_of_beq_eq_true (all_spec (all_spec rmul_all a ha) i hi)) b hb
theorem rmul {a b : Nat} (ha : a < 256) (hb : b < 256) : rd 8 (cl 8 0 a b) 32768 36480 = mul a b := by
  have h := rmul15 ha hb
  rwa [show (2 : Nat) ^ 15 = 32768 from by decide] at h
end Go.Proofs.YtikhjhbohkaajaaDoor.GF
