/- Products of the field of 256 as plain numbers, and that those by 2, 4, 8 .. come out alike in either order (looked at one by one). -/
namespace Go.Proofs.YtdbanimlnjhhlaaDoor.GF
/-- times x -/
def xt (a : Nat) : Nat := bif Nat.ble 128 a then Nat.xor (2 * a % 256) 29 else 2 * a
/-- n steps of the product -/
def ml : Nat → Nat → Nat → Nat
  | 0, _, _ => 0
  | n + 1, a, b => Nat.xor (bif Nat.beq (b % 2) 1 then a else 0) (ml n (xt a) (b / 2))
def mul (a b : Nat) : Nat := ml 8 a b
def all (p : Nat → Bool) : Nat → Bool
  | 0 => true
  | n + 1 => p n && all p n

theorem all_spec {p : Nat → Bool} {n : Nat} (h : all p n = true) : ∀ i, i < n → p i = true := by
  induction n with
  | zero => intro i hi; omega
  | succ n ih =>
    simp only [all, Bool.and_eq_true] at h
    intro i hi
    by_cases e : i = n
    · rw [e]; exact h.1
    · exact ih h.2 i (by omega)

theorem xt_lin_all : all (fun a => all (fun b => Nat.beq (xt (Nat.xor a b)) (Nat.xor (xt a) (xt b))) 256) 256 = true := by decide +kernel
theorem comm_all : all (fun a => all (fun i => Nat.beq (mul a (2 ^ i)) (mul (2 ^ i) a)) 8) 256 = true := by decide +kernel
theorem top_all : all (fun n => all (fun b => Nat.blt b (2 ^ n) || Nat.ble (2 ^ (n + 1)) b || Nat.blt (Nat.xor b (2 ^ n)) (2 ^ n)) 256) 8 = true := by decide +kernel
theorem xt_lt_all : all (fun a => Nat.blt (xt a) 256) 256 = true := by decide +kernel

end Go.Proofs.YtdbanimlnjhhlaaDoor.GF
