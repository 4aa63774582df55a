/- The document's own product of two bytes, as plain numbers: it is the product of the field (looked at one by one). -/
import Derived.Test.YtmgonangeokkmaaDoorField
namespace Go.Proofs.YtmgonangeokkmaaDoor.GF
/-- the product without taking away, r rounds -/
def cl : Nat → Nat → Nat → Nat → Nat
  | 0, n, _, _ => n
  | r + 1, n, x, y => cl r (bif Nat.beq (y % 2) 1 then Nat.xor n x else n) (2 * x) (y / 2)
/-- what is beyond is taken away, r rounds -/
def rd : Nat → Nat → Nat → Nat → Nat
  | 0, n, _, _ => n
  | r + 1, n, k, rule => rd r (bif Nat.beq (n / k % 2) 1 then Nat.xor n rule else n) (k / 2) (rule / 2)
theorem rmul_all : all (fun a => all (fun b => Nat.beq (rd 8 (cl 8 0 a b) 32768 36480) (mul a b)) 256) 256 = true := by decide +kernel
theorem rmul {a b : Nat} (ha : a < 256) (hb : b < 256) : rd 8 (cl 8 0 a b) 32768 36480 = mul a b :=
  Nat.eq_of_beq_eq_true (all_spec (all_spec rmul_all a ha) b hb)
end Go.Proofs.YtmgonangeokkmaaDoor.GF
