/- The field of 256 in plain numbers below 256: sums, products, powers, inverses and which power of 2 one is, and the laws of a field of them. -/
import Derived.Test.YtdbanimlnjhhlaaDoorBase
namespace Go.Proofs.YtdbanimlnjhhlaaDoor.GF
theorem xt_lin {a b : Nat} (ha : a < 256) (hb : b < 256) : xt (a ^^^ b) = xt a ^^^ xt b :=
  Nat.eq_of_beq_eq_true (all_spec (all_spec xt_lin_all a ha) b hb)
theorem xt_lt {a : Nat} (ha : a < 256) : xt a < 256 := by
  have := Nat.le_of_ble_eq_true (all_spec xt_lt_all a ha)
  omega
theorem xor_lt {a b : Nat} (ha : a < 256) (hb : b < 256) : a ^^^ b < 256 := Nat.xor_lt_two_pow (n := 8) ha hb

theorem ml_succ (n a b : Nat) : ml (n + 1) a b = (if b % 2 = 1 then a else 0) ^^^ ml n (xt a) (b / 2) := by
  show Nat.xor _ _ = _
  have : (bif Nat.beq (b % 2) 1 then a else 0) = if b % 2 = 1 then a else 0 := by
    by_cases h : b % 2 = 1
    · simp [h]
    · have : b % 2 = 0 := by omega
      rw [this]; rfl
  rw [this]; rfl

theorem ml_lt (n : Nat) : ∀ a b, a < 256 → ml n a b < 256 := by
  induction n with
  | zero => intro a b _; simp [ml]
  | succ n ih =>
    intro a b ha
    rw [ml_succ]
    refine xor_lt ?_ (ih _ _ (xt_lt ha))
    split <;> omega
theorem mul_lt {a : Nat} (b : Nat) (ha : a < 256) : mul a b < 256 := ml_lt 8 a b ha

theorem xor_swap (a b c d : Nat) : (a ^^^ b) ^^^ (c ^^^ d) = (a ^^^ c) ^^^ (b ^^^ d) := by
  apply Nat.eq_of_testBit_eq; intro i; simp only [Nat.testBit_xor]
  cases a.testBit i <;> cases b.testBit i <;> cases c.testBit i <;> cases d.testBit i <;> rfl

theorem ml_add_left (n : Nat) : ∀ a a' b, a < 256 → a' < 256 → ml n (a ^^^ a') b = ml n a b ^^^ ml n a' b := by
  induction n with
  | zero => intros; simp [ml]
  | succ n ih =>
    intro a a' b ha ha'
    rw [ml_succ, ml_succ, ml_succ, xt_lin ha ha', ih _ _ _ (xt_lt ha) (xt_lt ha'), xor_swap]
    congr 1
    split <;> simp

theorem xor_mod2 (a b : Nat) : (a ^^^ b) % 2 = (a % 2 + b % 2) % 2 := by
  have h := Nat.testBit_xor a b 0
  simp only [Nat.testBit_zero] at h
  have h1 := Nat.mod_two_eq_zero_or_one a
  have h2 := Nat.mod_two_eq_zero_or_one b
  have h3 := Nat.mod_two_eq_zero_or_one (a ^^^ b)
  rcases h1 with h1 | h1 <;> rcases h2 with h2 | h2 <;> rcases h3 with h3 | h3 <;> simp_all
theorem xor_div2 (a b : Nat) : (a ^^^ b) / 2 = a / 2 ^^^ b / 2 := by
  apply Nat.eq_of_testBit_eq; intro i
  simp only [Nat.testBit_xor, Nat.testBit_div_two]

theorem ml_add_right (n : Nat) : ∀ a b b', ml n a (b ^^^ b') = ml n a b ^^^ ml n a b' := by
  induction n with
  | zero => intros; simp [ml]
  | succ n ih =>
    intro a b b'
    rw [ml_succ, ml_succ, ml_succ, xor_div2, ih, xor_swap, xor_mod2]
    congr 1
    rcases Nat.mod_two_eq_zero_or_one b with h | h <;> rcases Nat.mod_two_eq_zero_or_one b' with h' | h' <;> simp [h, h']

theorem ml_zero (n : Nat) : ∀ b, ml n 0 b = 0 := by
  induction n with
  | zero => intro b; rfl
  | succ n ih =>
    intro b
    rw [ml_succ]
    have : xt 0 = 0 := rfl
    rw [this, ih]; simp

theorem ml_xt (n : Nat) : ∀ a b, a < 256 → ml n (xt a) b = xt (ml n a b) := by
  induction n with
  | zero => intros; rfl
  | succ n ih =>
    intro a b ha
    rw [ml_succ, ml_succ, xt_lin (by split <;> omega) (ml_lt _ _ _ (xt_lt ha)), ih _ _ (xt_lt ha)]
    congr 1
    split <;> rfl

theorem mul_add_left {a a' : Nat} (b : Nat) (ha : a < 256) (ha' : a' < 256) : mul (a ^^^ a') b = mul a b ^^^ mul a' b := ml_add_left 8 a a' b ha ha'
theorem mul_add (a b b' : Nat) : mul a (b ^^^ b') = mul a b ^^^ mul a b' := ml_add_right 8 a b b'
/-- what is the same at 1, 2, 4 .. 128 and adds up is the same -/
theorem by_bits {f g : Nat → Nat} (hf : ∀ x y, x < 256 → y < 256 → f (x ^^^ y) = f x ^^^ f y) (hg : ∀ x y, x < 256 → y < 256 → g (x ^^^ y) = g x ^^^ g y)
    (h : ∀ i, i < 8 → f (2 ^ i) = g (2 ^ i)) : ∀ b, b < 256 → f b = g b := by
  have f0 : f 0 = 0 := by have := hf 0 0 (by omega) (by omega); rw [Nat.xor_self, Nat.xor_self] at this; exact this
  have g0 : g 0 = 0 := by have := hg 0 0 (by omega) (by omega); rw [Nat.xor_self, Nat.xor_self] at this; exact this
  have key : ∀ n, n ≤ 8 → ∀ b, b < 2 ^ n → f b = g b := by
    intro n
    induction n with
    | zero => intro _ b hb; have : b = 0 := by omega
              rw [this, f0, g0]
    | succ n ih =>
      intro hn b hb
      by_cases hlt : b < 2 ^ n
      · exact ih (by omega) b hlt
      · have hp : 2 ^ (n + 1) ≤ 2 ^ 8 := Nat.pow_le_pow_right (by omega) hn
        have hq : 2 ^ n < 2 ^ (n + 1) := Nat.pow_lt_pow_right (by omega) (by omega)
        have ht := all_spec (all_spec top_all n (by omega)) b (by omega)
        simp only [Bool.or_eq_true] at ht
        rcases ht with (ht | ht) | ht
        · exact absurd (Nat.le_of_ble_eq_true ht) hlt
        · have := Nat.le_of_ble_eq_true ht; omega
        · have ht : b ^^^ 2 ^ n < 2 ^ n := Nat.le_of_ble_eq_true ht
          have e : b = (b ^^^ 2 ^ n) ^^^ 2 ^ n := by rw [Nat.xor_assoc, Nat.xor_self, Nat.xor_zero]
          rw [e, hf _ _ (by omega) (by omega), hg _ _ (by omega) (by omega), ih (by omega) _ ht, h n (by omega)]
  exact fun b hb => key 8 (by omega) b hb
theorem mul_comm {a b : Nat} (ha : a < 256) (hb : b < 256) : mul a b = mul b a :=
  by_bits (f := fun b => mul a b) (g := fun b => mul b a) (fun x y _ _ => mul_add a x y) (fun _ _ hx hy => mul_add_left a hx hy)
    (fun i hi => Nat.eq_of_beq_eq_true (all_spec (all_spec comm_all a ha) i hi)) b hb
theorem mul_xt_left {a : Nat} (b : Nat) (ha : a < 256) : mul (xt a) b = xt (mul a b) := ml_xt 8 a b ha
theorem mul_xt {a b : Nat} (ha : a < 256) (hb : b < 256) : mul a (xt b) = xt (mul a b) := by
  rw [mul_comm ha (xt_lt hb), mul_xt_left a hb, mul_comm hb ha]
theorem zero_mul (b : Nat) : mul 0 b = 0 := ml_zero 8 b
theorem mul_zero (a : Nat) : mul a 0 = 0 := by
  have h := mul_add a 0 0
  rw [Nat.xor_self, Nat.xor_self] at h; exact h
theorem mul_one (a : Nat) : mul a 1 = a := by
  have h0 : ∀ n x, ml n x 0 = 0 := by
    intro n; induction n with
    | zero => intro x; rfl
    | succ n ih => intro x; rw [ml_succ]; simp [ih]
  show ml (7 + 1) a 1 = a
  rw [ml_succ]; simp [h0]
theorem one_mul {a : Nat} (ha : a < 256) : mul 1 a = a := by rw [mul_comm (by omega) ha, mul_one]

theorem assoc_ml (n : Nat) : ∀ a b c, a < 256 → b < 256 → ml n (mul a b) c = mul a (ml n b c) := by
  induction n with
  | zero => intro a b c _ _; simp [ml, mul_zero]
  | succ n ih =>
    intro a b c ha hb
    rw [ml_succ, ml_succ, mul_add, ← mul_xt ha hb, ih _ _ _ ha (xt_lt hb)]
    congr 1
    split <;> simp [mul_zero]
theorem mul_assoc {a b : Nat} (c : Nat) (ha : a < 256) (hb : b < 256) : mul (mul a b) c = mul a (mul b c) := assoc_ml 8 a b c ha hb

theorem ml_more (n : Nat) : ∀ a b, b < 2 ^ n → ml (n + 1) a b = ml n a b := by
  induction n with
  | zero =>
    intro a b hb
    have : b = 0 := by omega
    subst this; rw [ml_succ]; simp [ml]
  | succ n ih =>
    intro a b hb
    rw [ml_succ (n + 1), ml_succ n a b, ih _ _ (by rw [Nat.pow_succ] at hb; omega)]
theorem mul_step (a b : Nat) (hb : b < 256) : mul a b = (if b % 2 = 1 then a else 0) ^^^ mul (xt a) (b / 2) := by
  show ml (7 + 1) a b = _ ^^^ ml (7 + 1) (xt a) (b / 2)
  rw [ml_succ, ml_more 7 (xt a) (b / 2) (by omega)]
theorem mul_odd {a b : Nat} (p : Nat) (hb : b < 256) (h : b % 2 = 1) : p ^^^ mul a b = (p ^^^ a) ^^^ mul (xt a) (b / 2) := by
  rw [mul_step a b hb, if_pos h, Nat.xor_assoc]
theorem mul_even {a b : Nat} (p : Nat) (hb : b < 256) (h : ¬ b % 2 = 1) : p ^^^ mul a b = p ^^^ mul (xt a) (b / 2) := by
  rw [mul_step a b hb, if_neg h, Nat.zero_xor]

def pow (a : Nat) : Nat → Nat
  | 0 => 1
  | n + 1 => mul a (pow a n)
theorem pow_lt {a : Nat} (ha : a < 256) : ∀ n, pow a n < 256
  | 0 => by simp [pow]
  | n + 1 => mul_lt _ ha
theorem pow_add {a : Nat} (ha : a < 256) (n m : Nat) : pow a (n + m) = mul (pow a n) (pow a m) := by
  induction n with
  | zero => simp [pow, one_mul (pow_lt ha m)]
  | succ n ih =>
    rw [Nat.add_right_comm]; simp only [pow]; rw [ih, mul_assoc _ ha (pow_lt ha n)]
theorem pow_mul {a : Nat} (ha : a < 256) (n m : Nat) : pow a (n * m) = pow (pow a n) m := by
  induction m with
  | zero => simp [pow]
  | succ m ih => rw [Nat.mul_succ, Nat.add_comm, pow_add ha, ih]; rfl
theorem pow_one (a : Nat) : pow a 1 = a := by simp [pow, mul_one]
theorem one_pow : ∀ n, pow 1 n = 1
  | 0 => rfl
  | n + 1 => by rw [pow, one_pow n]; rfl
theorem pow_sq {a : Nat} (ha : a < 256) (n : Nat) : pow (mul a a) n = pow a (2 * n) := by
  rw [pow_mul ha]; simp [pow, mul_one]
theorem zero_pow {n : Nat} (h : 0 < n) : pow 0 n = 0 := by
  cases n with
  | zero => omega
  | succ n => simp [pow, zero_mul]

/-- the inverse: to the power 254, by squares -/
def inv (a : Nat) : Nat :=
  let a2 := mul a a; let a4 := mul a2 a2; let a8 := mul a4 a4; let a16 := mul a8 a8; let a32 := mul a16 a16; let a64 := mul a32 a32; let a128 := mul a64 a64
  mul (mul (mul (mul (mul (mul a2 a4) a8) a16) a32) a64) a128
theorem inv_eq {a : Nat} (ha : a < 256) : inv a = pow a 254 := by
  have h1 := pow_one a
  have s : ∀ n, mul (pow a n) (pow a n) = pow a (n + n) := fun n => (pow_add ha n n).symm
  have e2 : mul a a = pow a 2 := by have := s 1; rwa [h1] at this
  unfold inv
  simp only [e2, s, ← pow_add ha]
theorem inv_all : all (fun a => Nat.beq (mul (a + 1) (inv (a + 1))) 1) 255 = true := by decide +kernel
theorem mul_inv {a : Nat} (ha : a < 256) (h0 : a ≠ 0) : mul a (inv a) = 1 := by
  have := Nat.eq_of_beq_eq_true (all_spec inv_all (a - 1) (by omega))
  rwa [show a - 1 + 1 = a by omega] at this
theorem inv_lt {a : Nat} (ha : a < 256) : inv a < 256 := by rw [inv_eq ha]; exact pow_lt ha _
theorem mul_eq_zero {a b : Nat} (ha : a < 256) (hb : b < 256) (h : mul a b = 0) : a = 0 ∨ b = 0 := by
  by_cases h0 : a = 0
  · exact Or.inl h0
  · right
    have : mul (inv a) (mul a b) = b := by
      rw [← mul_assoc b (inv_lt ha) ha, mul_comm (inv_lt ha) ha, mul_inv ha h0, one_mul hb]
    rw [← this, h, mul_zero]
theorem pow_255 {a : Nat} (ha : a < 256) (h0 : a ≠ 0) : pow a 255 = 1 := by
  show mul a (pow a 254) = 1
  rw [← inv_eq ha, mul_inv ha h0]
theorem pow_mod {a : Nat} (ha : a < 256) (h0 : a ≠ 0) (n : Nat) : pow a (n % 255) = pow a n := by
  have h := Nat.div_add_mod n 255
  have : pow a n = mul (pow a (255 * (n / 255))) (pow a (n % 255)) := by rw [← pow_add ha, h]
  rw [this, pow_mul ha, pow_255 ha h0, one_pow, one_mul (pow_lt ha _)]
theorem mul_left_cancel {a b c : Nat} (ha : a < 256) (h0 : a ≠ 0) (hb : b < 256) (hc : c < 256) (h : mul a b = mul a c) : b = c := by
  have e : ∀ x, x < 256 → mul (inv a) (mul a x) = x := fun x hx => by
    rw [← mul_assoc x (inv_lt ha) ha, mul_comm (inv_lt ha) ha, mul_inv ha h0, one_mul hx]
  rw [← e b hb, h, e c hc]
theorem inv_unique {a b : Nat} (ha : a < 256) (h0 : a ≠ 0) (hb : b < 256) (h : mul a b = 1) : b = inv a :=
  mul_left_cancel ha h0 hb (inv_lt ha) (by rw [h, mul_inv ha h0])

/-- the powers of 2, one behind the other -/
def ex : Nat → Nat
  | 0 => 1
  | n + 1 => xt (ex n)
theorem ex_lt : ∀ n, ex n < 256
  | 0 => by simp [ex]
  | n + 1 => xt_lt (ex_lt n)
theorem two_mul {a : Nat} (ha : a < 256) : mul 2 a = xt a := by
  have : mul (xt 1) a = xt (mul 1 a) := mul_xt_left a (by omega)
  rwa [one_mul ha] at this
theorem ex_eq : ∀ n, ex n = pow 2 n
  | 0 => rfl
  | n + 1 => by rw [ex, pow, ← ex_eq n, two_mul (ex_lt n)]
/-- the first n from k on (f of them at most) with x times itself .. -/
def find (a : Nat) : Nat → Nat → Nat → Nat
  | 0, k, _ => k
  | f + 1, k, x => bif Nat.beq x a then k else find a f (k + 1) (xt x)
def log (a : Nat) : Nat := find a 255 0 1
theorem log_all : all (fun a => Nat.blt (log (a + 1)) 255) 255 = true := by decide +kernel
theorem find_spec (a : Nat) : ∀ f k, find a f k (ex k) ≤ k + f ∧ k ≤ find a f k (ex k) ∧ (find a f k (ex k) < k + f → ex (find a f k (ex k)) = a) ∧ ∀ j, k ≤ j → j < find a f k (ex k) → ex j ≠ a := by
  intro f
  induction f with
  | zero => intro k; simp only [find]; exact ⟨by omega, by omega, fun h => by omega, fun j h1 h2 => by omega⟩
  | succ f ih =>
    intro k
    by_cases e : ex k = a
    · have : find a (f + 1) k (ex k) = k := by simp [find, e]
      rw [this]; exact ⟨by omega, by omega, fun _ => e, fun j h1 h2 => by omega⟩
    · have hb : Nat.beq (ex k) a = false := by
        cases hq : Nat.beq (ex k) a
        · rfl
        · exact absurd (Nat.eq_of_beq_eq_true hq) e
      have : find a (f + 1) k (ex k) = find a f (k + 1) (ex (k + 1)) := by simp only [find, hb, ex, cond_false]
      rw [this]
      obtain ⟨h1, h2, h3, h4⟩ := ih (k + 1)
      refine ⟨by omega, by omega, fun h => h3 (by omega), fun j hj1 hj2 => ?_⟩
      by_cases ej : j = k
      · rw [ej]; exact e
      · exact h4 j (by omega) hj2
theorem log_spec {a : Nat} (ha : a < 256) (h0 : a ≠ 0) : log a < 255 ∧ ex (log a) = a ∧ ∀ j, j < log a → ex j ≠ a := by
  have hl := all_spec log_all (a - 1) (by omega)
  rw [show a - 1 + 1 = a by omega] at hl
  have hl : log a < 255 := by have := Nat.le_of_ble_eq_true hl; omega
  obtain ⟨h1, h2, h3, h4⟩ := find_spec a 255 0
  exact ⟨hl, h3 (by show log a < 0 + 255; omega), fun j hj => h4 j (by omega) hj⟩
theorem ex_ne_zero (n : Nat) : ex n ≠ 0 := by
  intro h
  induction n with
  | zero => simp [ex] at h
  | succ n ih =>
    have : mul 2 (ex n) = 0 := by rw [two_mul (ex_lt n)]; exact h
    rcases mul_eq_zero (by omega) (ex_lt n) this with h | h
    · omega
    · exact ih h
end Go.Proofs.YtdbanimlnjhhlaaDoor.GF
