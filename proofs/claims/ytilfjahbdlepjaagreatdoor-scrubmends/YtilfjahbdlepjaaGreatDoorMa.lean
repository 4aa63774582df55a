/- Texts of plain mathematics, of memory and of walks, in one. -/
/- Products of the field of 256 as plain numbers, and that those by 2, 4, 8 .. come out alike in either order (looked at one by one). -/
namespace Go.Proofs.YtilfjahbdlepjaaGreatDoor.GF
/-- times x -/
def xt (a : Nat) : Nat := bif Nat.ble 128 a then Nat.xor (2 * a % 256) 29 else 2 * a
/-- n steps of the product -/
def ml : Nat → Nat → Nat → Nat
  | 0, _, _ => 0
  | n + 1, a, b => Nat.xor (bif Nat.beq (b % 2) 1 then a else 0) (ml n (xt a) (b / 2))
def mul (a b : Nat) : Nat := ml 8 a b
def all (p : Nat → Bool) : Nat → Bool
  | 0 => true
  | n + 1 => p n && all p n

theorem all_spec {p : Nat → Bool} {n : Nat} (h : all p n = true) : ∀ i, i < n → p i = true := by
  induction n with
  | zero => intro i hi; omega
  | succ n ih =>
    simp only [all, Bool.and_eq_true] at h
    intro i hi
    by_cases e : i = n
    · rw [e]; exact h.1
    · exact ih h.2 i (by omega)

theorem xt_lin_all : all (fun a => all (fun b => Nat.beq (xt (Nat.xor a b)) (Nat.xor (xt a) (xt b))) 256) 256 = true := by decide +kernel
theorem comm_all : all (fun a => all (fun i => Nat.beq (mul a (2 ^ i)) (mul (2 ^ i) a)) 8) 256 = true := by decide +kernel
theorem top_all : all (fun n => all (fun b => Nat.blt b (2 ^ n) || Nat.ble (2 ^ (n + 1)) b || Nat.blt (Nat.xor b (2 ^ n)) (2 ^ n)) 256) 8 = true := by decide +kernel
theorem xt_lt_all : all (fun a => Nat.blt (xt a) 256) 256 = true := by decide +kernel

end Go.Proofs.YtilfjahbdlepjaaGreatDoor.GF

/- The field of 256 in plain numbers below 256: sums, products, powers, inverses and which power of 2 one is, and the laws of a field of them. -/
namespace Go.Proofs.YtilfjahbdlepjaaGreatDoor.GF
theorem xt_lin {a b : Nat} (ha : a < 256) (hb : b < 256) : xt (a ^^^ b) = xt a ^^^ xt b :=
  Nat.eq_of_beq_eq_true (all_spec (all_spec xt_lin_all a ha) b hb)
theorem xt_lt {a : Nat} (ha : a < 256) : xt a < 256 := by
  have := Nat.le_of_ble_eq_true (all_spec xt_lt_all a ha)
  omega
theorem xor_lt {a b : Nat} (ha : a < 256) (hb : b < 256) : a ^^^ b < 256 := Nat.xor_lt_two_pow (n := 8) ha hb

theorem ml_succ (n a b : Nat) : ml (n + 1) a b = (if b % 2 = 1 then a else 0) ^^^ ml n (xt a) (b / 2) := by
  show Nat.xor _ _ = _
  have : (bif Nat.beq (b % 2) 1 then a else 0) = if b % 2 = 1 then a else 0 := by
    by_cases h : b % 2 = 1
    · simp [h]
    · have : b % 2 = 0 := by omega
      rw [this]; rfl
  rw [this]; rfl

theorem ml_lt (n : Nat) : ∀ a b, a < 256 → ml n a b < 256 := by
  induction n with
  | zero => intro a b _; simp [ml]
  | succ n ih =>
    intro a b ha
    rw [ml_succ]
    refine xor_lt ?_ (ih _ _ (xt_lt ha))
    split <;> omega
theorem mul_lt {a : Nat} (b : Nat) (ha : a < 256) : mul a b < 256 := ml_lt 8 a b ha

theorem xor_swap (a b c d : Nat) : (a ^^^ b) ^^^ (c ^^^ d) = (a ^^^ c) ^^^ (b ^^^ d) := by
  apply Nat.eq_of_testBit_eq; intro i; simp only [Nat.testBit_xor]
  cases a.testBit i <;> cases b.testBit i <;> cases c.testBit i <;> cases d.testBit i <;> rfl

theorem ml_add_left (n : Nat) : ∀ a a' b, a < 256 → a' < 256 → ml n (a ^^^ a') b = ml n a b ^^^ ml n a' b := by
  induction n with
  | zero => intros; simp [ml]
  | succ n ih =>
    intro a a' b ha ha'
    rw [ml_succ, ml_succ, ml_succ, xt_lin ha ha', ih _ _ _ (xt_lt ha) (xt_lt ha'), xor_swap]
    congr 1
    split <;> simp

theorem xor_mod2 (a b : Nat) : (a ^^^ b) % 2 = (a % 2 + b % 2) % 2 := by
  have h := Nat.testBit_xor a b 0
  simp only [Nat.testBit_zero] at h
  have h1 := Nat.mod_two_eq_zero_or_one a
  have h2 := Nat.mod_two_eq_zero_or_one b
  have h3 := Nat.mod_two_eq_zero_or_one (a ^^^ b)
  rcases h1 with h1 | h1 <;> rcases h2 with h2 | h2 <;> rcases h3 with h3 | h3 <;> simp_all
theorem xor_div2 (a b : Nat) : (a ^^^ b) / 2 = a / 2 ^^^ b / 2 := by
  apply Nat.eq_of_testBit_eq; intro i
  simp only [Nat.testBit_xor, Nat.testBit_div_two]

theorem ml_add_right (n : Nat) : ∀ a b b', ml n a (b ^^^ b') = ml n a b ^^^ ml n a b' := by
  induction n with
  | zero => intros; simp [ml]
  | succ n ih =>
    intro a b b'
    rw [ml_succ, ml_succ, ml_succ, xor_div2, ih, xor_swap, xor_mod2]
    congr 1
    rcases Nat.mod_two_eq_zero_or_one b with h | h <;> rcases Nat.mod_two_eq_zero_or_one b' with h' | h' <;> simp [h, h']

theorem ml_zero (n : Nat) : ∀ b, ml n 0 b = 0 := by
  induction n with
  | zero => intro b; rfl
  | succ n ih =>
    intro b
    rw [ml_succ]
    have : xt 0 = 0 := rfl
    rw [this, ih]; simp

theorem ml_xt (n : Nat) : ∀ a b, a < 256 → ml n (xt a) b = xt (ml n a b) := by
  induction n with
  | zero => intros; rfl
  | succ n ih =>
    intro a b ha
    rw [ml_succ, ml_succ, xt_lin (by split <;> omega) (ml_lt _ _ _ (xt_lt ha)), ih _ _ (xt_lt ha)]
    congr 1
    split <;> rfl

theorem mul_add_left {a a' : Nat} (b : Nat) (ha : a < 256) (ha' : a' < 256) : mul (a ^^^ a') b = mul a b ^^^ mul a' b := ml_add_left 8 a a' b ha ha'
theorem mul_add (a b b' : Nat) : mul a (b ^^^ b') = mul a b ^^^ mul a b' := ml_add_right 8 a b b'
/-- what is the same at 1, 2, 4 .. 128 and adds up is the same -/
theorem by_bits {f g : Nat → Nat} (hf : ∀ x y, x < 256 → y < 256 → f (x ^^^ y) = f x ^^^ f y) (hg : ∀ x y, x < 256 → y < 256 → g (x ^^^ y) = g x ^^^ g y)
    (h : ∀ i, i < 8 → f (2 ^ i) = g (2 ^ i)) : ∀ b, b < 256 → f b = g b := by
  have f0 : f 0 = 0 := by have := hf 0 0 (by omega) (by omega); rw [Nat.xor_self, Nat.xor_self] at this; exact this
  have g0 : g 0 = 0 := by have := hg 0 0 (by omega) (by omega); rw [Nat.xor_self, Nat.xor_self] at this; exact this
  have key : ∀ n, n ≤ 8 → ∀ b, b < 2 ^ n → f b = g b := by
    intro n
    induction n with
    | zero => intro _ b hb; have : b = 0 := by omega
              rw [this, f0, g0]
    | succ n ih =>
      intro hn b hb
      by_cases hlt : b < 2 ^ n
      · exact ih (by omega) b hlt
      · have hp : 2 ^ (n + 1) ≤ 2 ^ 8 := Nat.pow_le_pow_right (by omega) hn
        have hq : 2 ^ n < 2 ^ (n + 1) := Nat.pow_lt_pow_right (by omega) (by omega)
        have ht := all_spec (all_spec top_all n (by omega)) b (by omega)
        simp only [Bool.or_eq_true] at ht
        rcases ht with (ht | ht) | ht
        · exact absurd (Nat.le_of_ble_eq_true ht) hlt
        · have := Nat.le_of_ble_eq_true ht; omega
        · have ht : b ^^^ 2 ^ n < 2 ^ n := Nat.le_of_ble_eq_true ht
          have e : b = (b ^^^ 2 ^ n) ^^^ 2 ^ n := by rw [Nat.xor_assoc, Nat.xor_self, Nat.xor_zero]
          rw [e, hf _ _ (by omega) (by omega), hg _ _ (by omega) (by omega), ih (by omega) _ ht, h n (by omega)]
  exact fun b hb => key 8 (by omega) b hb
theorem mul_comm {a b : Nat} (ha : a < 256) (hb : b < 256) : mul a b = mul b a :=
  by_bits (f := fun b => mul a b) (g := fun b => mul b a) (fun x y _ _ => mul_add a x y) (fun _ _ hx hy => mul_add_left a hx hy)
    (fun i hi => Nat.eq_of_beq_eq_true (all_spec (all_spec comm_all a ha) i hi)) b hb
theorem mul_xt_left {a : Nat} (b : Nat) (ha : a < 256) : mul (xt a) b = xt (mul a b) := ml_xt 8 a b ha
theorem mul_xt {a b : Nat} (ha : a < 256) (hb : b < 256) : mul a (xt b) = xt (mul a b) := by
  rw [mul_comm ha (xt_lt hb), mul_xt_left a hb, mul_comm hb ha]
theorem zero_mul (b : Nat) : mul 0 b = 0 := ml_zero 8 b
theorem mul_zero (a : Nat) : mul a 0 = 0 := by
  have h := mul_add a 0 0
  rw [Nat.xor_self, Nat.xor_self] at h; exact h
theorem mul_one (a : Nat) : mul a 1 = a := by
  have h0 : ∀ n x, ml n x 0 = 0 := by
    intro n; induction n with
    | zero => intro x; rfl
    | succ n ih => intro x; rw [ml_succ]; simp [ih]
  show ml (7 + 1) a 1 = a
  rw [ml_succ]; simp [h0]
theorem one_mul {a : Nat} (ha : a < 256) : mul 1 a = a := by rw [mul_comm (by omega) ha, mul_one]

theorem assoc_ml (n : Nat) : ∀ a b c, a < 256 → b < 256 → ml n (mul a b) c = mul a (ml n b c) := by
  induction n with
  | zero => intro a b c _ _; simp [ml, mul_zero]
  | succ n ih =>
    intro a b c ha hb
    rw [ml_succ, ml_succ, mul_add, ← mul_xt ha hb, ih _ _ _ ha (xt_lt hb)]
    congr 1
    split <;> simp [mul_zero]
theorem mul_assoc {a b : Nat} (c : Nat) (ha : a < 256) (hb : b < 256) : mul (mul a b) c = mul a (mul b c) := assoc_ml 8 a b c ha hb

theorem ml_more (n : Nat) : ∀ a b, b < 2 ^ n → ml (n + 1) a b = ml n a b := by
  induction n with
  | zero =>
    intro a b hb
    have : b = 0 := by omega
    subst this; rw [ml_succ]; simp [ml]
  | succ n ih =>
    intro a b hb
    rw [ml_succ (n + 1), ml_succ n a b, ih _ _ (by rw [Nat.pow_succ] at hb; omega)]
theorem mul_step (a b : Nat) (hb : b < 256) : mul a b = (if b % 2 = 1 then a else 0) ^^^ mul (xt a) (b / 2) := by
  show ml (7 + 1) a b = _ ^^^ ml (7 + 1) (xt a) (b / 2)
  rw [ml_succ, ml_more 7 (xt a) (b / 2) (by omega)]
theorem mul_odd {a b : Nat} (p : Nat) (hb : b < 256) (h : b % 2 = 1) : p ^^^ mul a b = (p ^^^ a) ^^^ mul (xt a) (b / 2) := by
  rw [mul_step a b hb, if_pos h, Nat.xor_assoc]
theorem mul_even {a b : Nat} (p : Nat) (hb : b < 256) (h : ¬ b % 2 = 1) : p ^^^ mul a b = p ^^^ mul (xt a) (b / 2) := by
  rw [mul_step a b hb, if_neg h, Nat.zero_xor]

def pow (a : Nat) : Nat → Nat
  | 0 => 1
  | n + 1 => mul a (pow a n)
theorem pow_lt {a : Nat} (ha : a < 256) : ∀ n, pow a n < 256
  | 0 => by simp [pow]
  | n + 1 => mul_lt _ ha
theorem pow_add {a : Nat} (ha : a < 256) (n m : Nat) : pow a (n + m) = mul (pow a n) (pow a m) := by
  induction n with
  | zero => simp [pow, one_mul (pow_lt ha m)]
  | succ n ih =>
    rw [Nat.add_right_comm]; simp only [pow]; rw [ih, mul_assoc _ ha (pow_lt ha n)]
theorem pow_mul {a : Nat} (ha : a < 256) (n m : Nat) : pow a (n * m) = pow (pow a n) m := by
  induction m with
  | zero => simp [pow]
  | succ m ih => rw [Nat.mul_succ, Nat.add_comm, pow_add ha, ih]; rfl
theorem pow_one (a : Nat) : pow a 1 = a := by simp [pow, mul_one]
theorem one_pow : ∀ n, pow 1 n = 1
  | 0 => rfl
  | n + 1 => by rw [pow, one_pow n]; rfl
theorem pow_sq {a : Nat} (ha : a < 256) (n : Nat) : pow (mul a a) n = pow a (2 * n) := by
  rw [pow_mul ha]; simp [pow, mul_one]
theorem zero_pow {n : Nat} (h : 0 < n) : pow 0 n = 0 := by
  cases n with
  | zero => omega
  | succ n => simp [pow, zero_mul]

/-- the inverse: to the power 254, by squares -/
def inv (a : Nat) : Nat :=
  let a2 := mul a a; let a4 := mul a2 a2; let a8 := mul a4 a4; let a16 := mul a8 a8; let a32 := mul a16 a16; let a64 := mul a32 a32; let a128 := mul a64 a64
  mul (mul (mul (mul (mul (mul a2 a4) a8) a16) a32) a64) a128
theorem inv_eq {a : Nat} (ha : a < 256) : inv a = pow a 254 := by
  have h1 := pow_one a
  have s : ∀ n, mul (pow a n) (pow a n) = pow a (n + n) := fun n => (pow_add ha n n).symm
  have e2 : mul a a = pow a 2 := by have := s 1; rwa [h1] at this
  unfold inv
  simp only [e2, s, ← pow_add ha]
theorem inv_all : all (fun a => Nat.beq (mul (a + 1) (inv (a + 1))) 1) 255 = true := by decide +kernel
theorem mul_inv {a : Nat} (ha : a < 256) (h0 : a ≠ 0) : mul a (inv a) = 1 := by
  have := Nat.eq_of_beq_eq_true (all_spec inv_all (a - 1) (by omega))
  rwa [show a - 1 + 1 = a by omega] at this
theorem inv_lt {a : Nat} (ha : a < 256) : inv a < 256 := by rw [inv_eq ha]; exact pow_lt ha _
theorem mul_eq_zero {a b : Nat} (ha : a < 256) (hb : b < 256) (h : mul a b = 0) : a = 0 ∨ b = 0 := by
  by_cases h0 : a = 0
  · exact Or.inl h0
  · right
    have : mul (inv a) (mul a b) = b := by
      rw [← mul_assoc b (inv_lt ha) ha, mul_comm (inv_lt ha) ha, mul_inv ha h0, one_mul hb]
    rw [← this, h, mul_zero]
theorem pow_255 {a : Nat} (ha : a < 256) (h0 : a ≠ 0) : pow a 255 = 1 := by
  show mul a (pow a 254) = 1
  rw [← inv_eq ha, mul_inv ha h0]
theorem pow_mod {a : Nat} (ha : a < 256) (h0 : a ≠ 0) (n : Nat) : pow a (n % 255) = pow a n := by
  have h := Nat.div_add_mod n 255
  have : pow a n = mul (pow a (255 * (n / 255))) (pow a (n % 255)) := by rw [← pow_add ha, h]
  rw [this, pow_mul ha, pow_255 ha h0, one_pow, one_mul (pow_lt ha _)]
theorem mul_left_cancel {a b c : Nat} (ha : a < 256) (h0 : a ≠ 0) (hb : b < 256) (hc : c < 256) (h : mul a b = mul a c) : b = c := by
  have e : ∀ x, x < 256 → mul (inv a) (mul a x) = x := fun x hx => by
    rw [← mul_assoc x (inv_lt ha) ha, mul_comm (inv_lt ha) ha, mul_inv ha h0, one_mul hx]
  rw [← e b hb, h, e c hc]
theorem inv_unique {a b : Nat} (ha : a < 256) (h0 : a ≠ 0) (hb : b < 256) (h : mul a b = 1) : b = inv a :=
  mul_left_cancel ha h0 hb (inv_lt ha) (by rw [h, mul_inv ha h0])

/-- the powers of 2, one behind the other -/
def ex : Nat → Nat
  | 0 => 1
  | n + 1 => xt (ex n)
theorem ex_lt : ∀ n, ex n < 256
  | 0 => by simp [ex]
  | n + 1 => xt_lt (ex_lt n)
theorem two_mul {a : Nat} (ha : a < 256) : mul 2 a = xt a := by
  have : mul (xt 1) a = xt (mul 1 a) := mul_xt_left a (by omega)
  rwa [one_mul ha] at this
theorem ex_eq : ∀ n, ex n = pow 2 n
  | 0 => rfl
  | n + 1 => by rw [ex, pow, ← ex_eq n, two_mul (ex_lt n)]
/-- the first n from k on (f of them at most) with x times itself .. -/
def find (a : Nat) : Nat → Nat → Nat → Nat
  | 0, k, _ => k
  | f + 1, k, x => bif Nat.beq x a then k else find a f (k + 1) (xt x)
def log (a : Nat) : Nat := find a 255 0 1
theorem log_all : all (fun a => Nat.blt (log (a + 1)) 255) 255 = true := by decide +kernel
theorem find_spec (a : Nat) : ∀ f k, find a f k (ex k) ≤ k + f ∧ k ≤ find a f k (ex k) ∧ (find a f k (ex k) < k + f → ex (find a f k (ex k)) = a) ∧ ∀ j, k ≤ j → j < find a f k (ex k) → ex j ≠ a := by
  intro f
  induction f with
  | zero => intro k; simp only [find]; exact ⟨by omega, by omega, fun h => by omega, fun j h1 h2 => by omega⟩
  | succ f ih =>
    intro k
    by_cases e : ex k = a
    · have : find a (f + 1) k (ex k) = k := by simp [find, e]
      rw [this]; exact ⟨by omega, by omega, fun _ => e, fun j h1 h2 => by omega⟩
    · have hb : Nat.beq (ex k) a = false := by
        cases hq : Nat.beq (ex k) a
        · rfl
        · exact absurd (Nat.eq_of_beq_eq_true hq) e
      have : find a (f + 1) k (ex k) = find a f (k + 1) (ex (k + 1)) := by simp only [find, hb, ex, cond_false]
      rw [this]
      obtain ⟨h1, h2, h3, h4⟩ := ih (k + 1)
      refine ⟨by omega, by omega, fun h => h3 (by omega), fun j hj1 hj2 => ?_⟩
      by_cases ej : j = k
      · rw [ej]; exact e
      · exact h4 j (by omega) hj2
theorem log_spec {a : Nat} (ha : a < 256) (h0 : a ≠ 0) : log a < 255 ∧ ex (log a) = a ∧ ∀ j, j < log a → ex j ≠ a := by
  have hl := all_spec log_all (a - 1) (by omega)
  rw [show a - 1 + 1 = a by omega] at hl
  have hl : log a < 255 := by have := Nat.le_of_ble_eq_true hl; omega
  obtain ⟨h1, h2, h3, h4⟩ := find_spec a 255 0
  exact ⟨hl, h3 (by show log a < 0 + 255; omega), fun j hj => h4 j (by omega) hj⟩
theorem ex_ne_zero (n : Nat) : ex n ≠ 0 := by
  intro h
  induction n with
  | zero => simp [ex] at h
  | succ n ih =>
    have : mul 2 (ex n) = 0 := by rw [two_mul (ex_lt n)]; exact h
    rcases mul_eq_zero (by omega) (ex_lt n) this with h | h
    · omega
    · exact ih h
end Go.Proofs.YtilfjahbdlepjaaGreatDoor.GF

/- The elements of the field of 256 as a type of their own (numbers below 256), with the laws of a field, so that no bound need be carried. -/
namespace Go.Proofs.YtilfjahbdlepjaaGreatDoor
abbrev El := Fin 256
namespace El
def pl (a b : El) : El := ⟨a.val ^^^ b.val, GF.xor_lt a.2 b.2⟩
def ti (a b : El) : El := ⟨GF.mul a.val b.val, GF.mul_lt _ a.2⟩
def iv (a : El) : El := ⟨GF.inv a.val, GF.inv_lt a.2⟩
def pw (a : El) (n : Nat) : El := ⟨GF.pow a.val n, GF.pow_lt a.2 n⟩
theorem pl_comm (a b : El) : pl a b = pl b a := Fin.ext (Nat.xor_comm _ _)
theorem pl_assoc (a b c : El) : pl (pl a b) c = pl a (pl b c) := Fin.ext (Nat.xor_assoc _ _ _)
theorem pl_self (a : El) : pl a a = 0 := Fin.ext (Nat.xor_self _)
theorem pl_zero (a : El) : pl a 0 = a := Fin.ext (Nat.xor_zero _)
theorem zero_pl (a : El) : pl 0 a = a := Fin.ext (Nat.zero_xor _)
theorem ti_comm (a b : El) : ti a b = ti b a := Fin.ext (GF.mul_comm a.2 b.2)
theorem ti_assoc (a b c : El) : ti (ti a b) c = ti a (ti b c) := Fin.ext (GF.mul_assoc _ a.2 b.2)
theorem ti_pl (a b c : El) : ti a (pl b c) = pl (ti a b) (ti a c) := Fin.ext (GF.mul_add _ _ _)
theorem pl_ti (a b c : El) : ti (pl a b) c = pl (ti a c) (ti b c) := Fin.ext (GF.mul_add_left _ a.2 b.2)
theorem ti_one (a : El) : ti a 1 = a := Fin.ext (GF.mul_one _)
theorem one_ti (a : El) : ti 1 a = a := Fin.ext (GF.one_mul a.2)
theorem ti_zero (a : El) : ti a 0 = 0 := Fin.ext (GF.mul_zero _)
theorem zero_ti (a : El) : ti 0 a = 0 := Fin.ext (GF.zero_mul _)
theorem val_ne {a : El} (h : a ≠ 0) : a.val ≠ 0 := fun e => h (Fin.ext e)
theorem ti_iv {a : El} (h : a ≠ 0) : ti a (iv a) = 1 := Fin.ext (GF.mul_inv a.2 (val_ne h))
theorem iv_ti {a : El} (h : a ≠ 0) : ti (iv a) a = 1 := by rw [ti_comm, ti_iv h]
theorem ti_eq_zero {a b : El} (h : ti a b = 0) : a = 0 ∨ b = 0 := by
  rcases GF.mul_eq_zero a.2 b.2 (congrArg Fin.val h) with h | h
  · exact .inl (Fin.ext h)
  · exact .inr (Fin.ext h)
theorem ti_ne_zero {a b : El} (ha : a ≠ 0) (hb : b ≠ 0) : ti a b ≠ 0 := fun h => (ti_eq_zero h).elim ha hb
theorem iv_ne_zero {a : El} (h : a ≠ 0) : iv a ≠ 0 := by
  intro e
  have := ti_iv h
  rw [e, ti_zero] at this
  exact absurd this (by decide)
theorem ti_left_cancel {a b c : El} (ha : a ≠ 0) (h : ti a b = ti a c) : b = c := by
  have e : ∀ x, ti (iv a) (ti a x) = x := fun x => by rw [← ti_assoc, iv_ti ha, one_ti]
  rw [← e b, h, e c]
theorem pl_left_cancel {a b c : El} (h : pl a b = pl a c) : b = c := by
  have e : ∀ x, pl a (pl a x) = x := fun x => by rw [← pl_assoc, pl_self, zero_pl]
  rw [← e b, h, e c]
theorem pl_eq_zero {a b : El} (h : pl a b = 0) : a = b := by
  have : pl a b = pl a a := by rw [h, pl_self]
  exact (pl_left_cancel this).symm
theorem pl_swap (a b c d : El) : pl (pl a b) (pl c d) = pl (pl a c) (pl b d) := Fin.ext (GF.xor_swap _ _ _ _)
theorem pl_pl_self (a b : El) : pl a (pl a b) = b := by rw [← pl_assoc, pl_self, zero_pl]
theorem pl_left_comm (a b c : El) : pl a (pl b c) = pl b (pl a c) := by rw [← pl_assoc, pl_comm a b, pl_assoc]
theorem ti_left_comm (a b c : El) : ti a (ti b c) = ti b (ti a c) := by rw [← ti_assoc, ti_comm a b, ti_assoc]
end El
end Go.Proofs.YtilfjahbdlepjaaGreatDoor

/- Polynomials over the field of 256 as lists of coefficients, that of x to the 0 first: sums, products, values, division with a rest, the one through points: each is the only one of its kind. -/
namespace Go.Proofs.YtilfjahbdlepjaaGreatDoor
namespace Pol
open El
def co (p : List El) (i : Nat) : El := p.getD i 0
def trim : List El → List El
  | [] => []
  | c :: p => if trim p = [] ∧ c = 0 then [] else c :: trim p
def add : List El → List El → List El
  | [], b => b
  | x :: a, [] => x :: a
  | x :: a, y :: b => pl x y :: add a b
def scale (c : El) (p : List El) : List El := p.map (ti c)
def mul : List El → List El → List El
  | [], _ => []
  | x :: a, b => add (scale x b) (0 :: mul a b)
def ev : List El → El → El
  | [], _ => 0
  | c :: p, x => pl c (ti x (ev p x))
/-- the sum of the first n -/
def sm : Nat → (Nat → El) → El
  | 0, _ => 0
  | n + 1, f => pl (sm n f) (f n)

theorem co_nil (i : Nat) : co [] i = 0 := by simp [co]
theorem co_zero (c : El) (p : List El) : co (c :: p) 0 = c := by simp [co]
theorem co_succ (c : El) (p : List El) (i : Nat) : co (c :: p) (i + 1) = co p i := by simp [co]
theorem co_beyond (p : List El) (i : Nat) (h : p.length ≤ i) : co p i = 0 := by simp [co, h]
theorem co_trim (p : List El) : ∀ i, co (trim p) i = co p i := by
  induction p with
  | nil => intro i; rfl
  | cons c p ih =>
    intro i
    by_cases h : trim p = [] ∧ c = 0
    · rw [show trim (c :: p) = [] from if_pos h, co_nil]
      cases i with
      | zero => rw [co_zero, h.2]
      | succ i => rw [co_succ, ← ih i, h.1, co_nil]
    · rw [show trim (c :: p) = c :: trim p from if_neg h]
      cases i with
      | zero => rw [co_zero, co_zero]
      | succ i => rw [co_succ, co_succ, ih]
theorem trim_nil_iff (p : List El) : trim p = [] ↔ ∀ i, co p i = 0 := by
  constructor
  · intro h i; rw [← co_trim, h, co_nil]
  · induction p with
    | nil => intro _; rfl
    | cons c p ih =>
      intro h
      have h0 := h 0
      rw [co_zero] at h0
      have hp := ih (fun i => by have := h (i + 1); rwa [co_succ] at this)
      exact if_pos ⟨hp, h0⟩
theorem trim_ext : ∀ a b : List El, (∀ i, co a i = co b i) → trim a = trim b
  | [], b, h => ((trim_nil_iff b).2 (fun i => by rw [← h i, co_nil])).symm
  | x :: a, [], h => (trim_nil_iff (x :: a)).2 (fun i => by rw [h i, co_nil])
  | x :: a, y :: b, h => by
    have h0 := h 0
    rw [co_zero, co_zero] at h0
    have ht := trim_ext a b (fun i => by have := h (i + 1); rwa [co_succ, co_succ] at this)
    simp only [trim, ht, h0]
theorem trim_trim (p : List El) : trim (trim p) = trim p := trim_ext _ _ (co_trim p)
theorem trim_length_le (p : List El) : (trim p).length ≤ p.length := by
  induction p with
  | nil => exact Nat.le_refl _
  | cons c p ih =>
    by_cases h : trim p = [] ∧ c = 0
    · rw [show trim (c :: p) = [] from if_pos h]; simp
    · rw [show trim (c :: p) = c :: trim p from if_neg h]; simpa using ih
theorem trim_top (p : List El) (h : trim p ≠ []) : co p ((trim p).length - 1) ≠ 0 := by
  induction p with
  | nil => exact absurd rfl h
  | cons c p ih =>
    by_cases hc : trim p = [] ∧ c = 0
    · exact absurd (if_pos hc) h
    · rw [show trim (c :: p) = c :: trim p from if_neg hc]
      by_cases hp : trim p = []
      · rw [hp]
        intro e
        exact hc ⟨hp, by rwa [List.length_singleton, Nat.sub_self, co_zero] at e⟩
      · have hl : 0 < (trim p).length := List.length_pos_iff.2 hp
        rw [List.length_cons, Nat.add_sub_cancel, show (trim p).length = (trim p).length - 1 + 1 by omega, co_succ]
        exact ih hp
theorem trim_length_iff (p : List El) (n : Nat) : (trim p).length ≤ n ↔ ∀ i, n ≤ i → co p i = 0 := by
  constructor
  · intro h i hi; rw [← co_trim]; exact co_beyond _ _ (by omega)
  · intro h
    by_cases e : trim p = []
    · simp [e]
    · have ht := trim_top p e
      have hl : 0 < (trim p).length := List.length_pos_iff.2 e
      rcases Nat.lt_or_ge n (trim p).length with k | k
      · exact absurd (h _ (by omega)) ht
      · exact k

theorem sm_congr (n : Nat) {f g : Nat → El} (h : ∀ i, i < n → f i = g i) : sm n f = sm n g := by
  induction n with
  | zero => rfl
  | succ n ih => rw [sm, sm, ih (fun i hi => h i (by omega)), h n (by omega)]
theorem sm_zero (n : Nat) {f : Nat → El} (h : ∀ i, i < n → f i = 0) : sm n f = 0 := by
  induction n with
  | zero => rfl
  | succ n ih => rw [sm, ih (fun i hi => h i (by omega)), h n (by omega), pl_zero]
theorem sm_pl (n : Nat) (f g : Nat → El) : sm n (fun i => pl (f i) (g i)) = pl (sm n f) (sm n g) := by
  induction n with
  | zero => exact (pl_self 0).symm
  | succ n ih => rw [sm, sm, sm, ih, pl_swap]
theorem sm_ti (n : Nat) (c : El) (f : Nat → El) : sm n (fun i => ti c (f i)) = ti c (sm n f) := by
  induction n with
  | zero => exact (ti_zero c).symm
  | succ n ih => rw [sm, sm, ih, ti_pl]
theorem sm_front (n : Nat) (f : Nat → El) : sm (n + 1) f = pl (f 0) (sm n (fun i => f (i + 1))) := by
  induction n with
  | zero => rw [sm, sm, sm, zero_pl, pl_zero]
  | succ n ih => rw [sm, ih, sm, pl_assoc]
theorem sm_one (n j : Nat) (hj : j < n) {f : Nat → El} (h : ∀ i, i < n → i ≠ j → f i = 0) : sm n f = f j := by
  induction n with
  | zero => omega
  | succ n ih =>
    by_cases e : j = n
    · subst e; rw [sm, sm_zero j (fun i hi => h i (by omega) (by omega)), zero_pl]
    · rw [sm, ih (by omega) (fun i hi hne => h i (by omega) hne), h n (by omega) (fun q => e q.symm), pl_zero]

theorem co_add : ∀ (a b : List El) (i : Nat), co (add a b) i = pl (co a i) (co b i)
  | [], b, i => by rw [co_nil, zero_pl]; rfl
  | x :: a, [], i => by rw [co_nil, pl_zero]; rfl
  | x :: a, y :: b, 0 => by rw [co_zero, co_zero]; rfl
  | x :: a, y :: b, i + 1 => by rw [co_succ, co_succ]; exact co_add a b i
theorem co_scale (c : El) (p : List El) : ∀ i, co (scale c p) i = ti c (co p i) := by
  induction p with
  | nil => intro i; show co [] i = _; rw [co_nil, ti_zero]
  | cons x p ih =>
    intro i
    cases i with
    | zero => rw [co_zero]; rfl
    | succ i => rw [co_succ]; exact ih i
theorem co_mul (a b : List El) : ∀ n, co (mul a b) n = sm (n + 1) (fun i => ti (co a i) (co b (n - i))) := by
  induction a with
  | nil => intro n; rw [show mul [] b = [] from rfl, co_nil, sm_zero]; intro i _; rw [co_nil, zero_ti]
  | cons x a ih =>
    intro n
    rw [show mul (x :: a) b = add (scale x b) (0 :: mul a b) from rfl, co_add, co_scale, sm_front, co_zero]
    cases n with
    | zero => rw [co_zero]; rfl
    | succ n =>
      rw [co_succ, ih n]
      congr 1
      exact sm_congr _ (fun i hi => by rw [co_succ, show n + 1 - (i + 1) = n - i by omega])
/-- the sum the other way round -/
theorem sm_rev (n : Nat) : ∀ f : Nat → El, sm (n + 1) f = sm (n + 1) (fun i => f (n - i)) := by
  induction n with
  | zero => intro f; rfl
  | succ n ih =>
    intro f
    rw [sm_front (n + 1) (fun i => f (n + 1 - i)), sm, pl_comm, ih f]
    congr 1
    exact sm_congr _ (fun i hi => by rw [show n + 1 - (i + 1) = n - i by omega])
theorem mul_comm_co (a b : List El) (n : Nat) : co (mul a b) n = co (mul b a) n := by
  rw [co_mul, co_mul, sm_rev]
  exact sm_congr _ (fun i hi => by rw [show n - (n - i) = i by omega, ti_comm])

theorem ev_zero (p : List El) (h : ∀ i, co p i = 0) (x : El) : ev p x = 0 := by
  induction p with
  | nil => rfl
  | cons c p ih =>
    have h0 := h 0
    rw [co_zero] at h0
    rw [ev, h0, ih (fun i => by have := h (i + 1); rwa [co_succ] at this), ti_zero, pl_zero]
theorem ev_add : ∀ (a b : List El) (x : El), ev (add a b) x = pl (ev a x) (ev b x)
  | [], b, x => (zero_pl _).symm
  | y :: a, [], x => (pl_zero _).symm
  | y :: a, z :: b, x => by
    show pl (pl y z) (ti x (ev (add a b) x)) = _
    rw [ev_add a b x, ti_pl, pl_swap]; rfl
theorem ev_scale (c : El) (p : List El) (x : El) : ev (scale c p) x = ti c (ev p x) := by
  induction p with
  | nil => exact (ti_zero c).symm
  | cons y p ih =>
    show pl (ti c y) (ti x (ev (scale c p) x)) = ti c (pl y (ti x (ev p x)))
    rw [ih, ti_pl, ti_left_comm]
theorem ev_mul (a b : List El) (x : El) : ev (mul a b) x = ti (ev a x) (ev b x) := by
  induction a with
  | nil => exact (zero_ti _).symm
  | cons y a ih =>
    show ev (add (scale y b) (0 :: mul a b)) x = ti (pl y (ti x (ev a x))) (ev b x)
    rw [ev_add, ev_scale, ev, ih, zero_pl, pl_ti, ti_assoc]
theorem ev_ext (a b : List El) (h : ∀ i, co a i = co b i) (x : El) : ev a x = ev b x := by
  have : ev (add a b) x = 0 := ev_zero _ (fun i => by rw [co_add, h i, pl_self]) x
  rw [ev_add] at this
  exact pl_eq_zero this
theorem ev_trim (p : List El) (x : El) : ev (trim p) x = ev p x := ev_ext _ _ (co_trim p) x
theorem ev_sum (p : List El) (x : El) : ev p x = sm p.length (fun i => ti (co p i) (pw x i)) := by
  induction p with
  | nil => rfl
  | cons c p ih =>
    rw [List.length_cons, sm_front, co_zero, show pw x 0 = 1 from rfl, ti_one, ev, ih, ← sm_ti]
    congr 1
    exact sm_congr _ (fun i _ => by rw [co_succ, ti_left_comm]; rfl)

theorem co_mul_top (a b : List El) (n m : Nat) (ha : ∀ i, n < i → co a i = 0) (hb : ∀ i, m < i → co b i = 0) : co (mul a b) (n + m) = ti (co a n) (co b m) := by
  rw [co_mul, sm_one _ n (by omega)]
  · rw [show n + m - n = m by omega]
  · intro i hi hne
    rcases Nat.lt_or_ge n i with k | k
    · rw [ha i k, zero_ti]
    · rw [hb (n + m - i) (by omega), ti_zero]
theorem co_mul_beyond (a b : List El) (n m : Nat) (ha : ∀ i, n < i → co a i = 0) (hb : ∀ i, m < i → co b i = 0) (k : Nat) (hk : n + m < k) : co (mul a b) k = 0 := by
  rw [co_mul]
  refine sm_zero _ (fun i hi => ?_)
  rcases Nat.lt_or_ge n i with q | q
  · rw [ha i q, zero_ti]
  · rw [hb (k - i) (by omega), ti_zero]
/-- a product of two that are not 0 is as long as both, less one -/
theorem mul_length (a b : List El) (ha : trim a ≠ []) (hb : trim b ≠ []) : (trim (mul a b)).length = (trim a).length + (trim b).length - 1 := by
  have la : 0 < (trim a).length := List.length_pos_iff.2 ha
  have lb : 0 < (trim b).length := List.length_pos_iff.2 hb
  have za := (trim_length_iff a (trim a).length).1 (Nat.le_refl _)
  have zb := (trim_length_iff b (trim b).length).1 (Nat.le_refl _)
  have top := co_mul_top a b ((trim a).length - 1) ((trim b).length - 1) (fun i hi => za i (by omega)) (fun i hi => zb i (by omega))
  have ne : co (mul a b) ((trim a).length - 1 + ((trim b).length - 1)) ≠ 0 := by
    rw [top]; exact ti_ne_zero (trim_top a ha) (trim_top b hb)
  apply Nat.le_antisymm
  · exact (trim_length_iff _ _).2 (fun i hi => co_mul_beyond a b ((trim a).length - 1) ((trim b).length - 1) (fun i hi => za i (by omega)) (fun i hi => zb i (by omega)) i (by omega))
  · rcases Nat.lt_or_ge (trim (mul a b)).length ((trim a).length + (trim b).length - 1) with k | k
    · exact absurd ((trim_length_iff (mul a b) (trim (mul a b)).length).1 (Nat.le_refl _) _ (by omega)) ne
    · exact k
theorem mul_zero_left (a b : List El) (h : ∀ i, co a i = 0) (n : Nat) : co (mul a b) n = 0 := by
  rw [co_mul]; exact sm_zero _ (fun i _ => by rw [h i, zero_ti])
theorem co_mul_add (a a' b : List El) (n : Nat) : co (mul (add a a') b) n = pl (co (mul a b) n) (co (mul a' b) n) := by
  rw [co_mul, co_mul, co_mul, ← sm_pl]
  exact sm_congr _ (fun i _ => by rw [co_add, pl_ti])
/-- how often, and the rest: there is one answer -/
theorem div_unique (b q q' r r' : List El) (hr : (trim r).length < (trim b).length) (hr' : (trim r').length < (trim b).length)
    (h : ∀ i, pl (co (mul q b) i) (co r i) = pl (co (mul q' b) i) (co r' i)) : trim q = trim q' ∧ trim r = trim r' := by
  have hb : trim b ≠ [] := by intro e; rw [e] at hr; simp at hr
  have hs : ∀ i, co (mul (add q q') b) i = co (add r r') i := by
    intro i
    rw [co_mul_add, co_add]
    have := h i
    have e : pl (pl (co (mul q b) i) (co r i)) (pl (co (mul q' b) i) (co r' i)) = 0 := by rw [this, pl_self]
    rw [pl_swap] at e
    exact pl_eq_zero e
  have hq : ∀ i, co (add q q') i = 0 := by
    rw [← trim_nil_iff]
    by_cases e : trim (add q q') = []
    · exact e
    · exfalso
      have l1 := mul_length (add q q') b e hb
      rw [trim_ext _ _ hs] at l1
      have lq : 0 < (trim (add q q')).length := List.length_pos_iff.2 e
      have l2 : (trim (add r r')).length ≤ (trim b).length - 1 := (trim_length_iff _ _).2 (fun i hi => by
        rw [co_add, (trim_length_iff r ((trim b).length - 1)).1 (by omega) i hi, (trim_length_iff r' ((trim b).length - 1)).1 (by omega) i hi, pl_self])
      omega
  refine ⟨trim_ext _ _ (fun i => pl_eq_zero (by rw [← co_add]; exact hq i)), trim_ext _ _ (fun i => pl_eq_zero ?_)⟩
  rw [← co_add, ← hs i]
  exact mul_zero_left _ _ hq i

/-- what is left of p when x less c is taken out -/
def qt (c : El) : List El → List El
  | [] => []
  | _ :: p => ev p c :: qt c p
theorem ev_qt (c : El) (p : List El) (x : El) : ev p x = pl (ti (pl x c) (ev (qt c p) x)) (ev p c) := by
  induction p with
  | nil => show (0 : El) = pl (ti (pl x c) 0) 0; rw [ti_zero, pl_zero]
  | cons y p ih =>
    show pl y (ti x (ev p x)) = pl (ti (pl x c) (pl (ev p c) (ti x (ev (qt c p) x)))) (pl y (ti c (ev p c)))
    have e : ti (pl x c) (pl (ev p c) (ti x (ev (qt c p) x))) = pl (ti x (ev p x)) (ti c (ev p c)) := by
      rw [ti_pl, ti_left_comm, ih, ti_pl, pl_ti, pl_assoc, pl_assoc, pl_comm (ti c (ev p c)), pl_comm (ti x _), pl_assoc]
      rw [pl_comm (ti c (ev p c)) (ti x (ev p c))]
    rw [e, pl_comm y, pl_comm y, pl_assoc, ← pl_assoc (ti c (ev p c)), pl_self, zero_pl]
theorem co_qt_zero (c : El) (p : List El) : co p 0 = pl (ti c (co (qt c p) 0)) (ev p c) := by
  cases p with
  | nil => show co [] 0 = pl (ti c (co [] 0)) 0; rw [co_nil, ti_zero, pl_zero]
  | cons y p => rw [co_zero, qt, co_zero, ev, pl_comm y, ← pl_assoc, pl_self, zero_pl]
theorem co_qt (c : El) (p : List El) : ∀ i, co p (i + 1) = pl (co (qt c p) i) (ti c (co (qt c p) (i + 1))) := by
  induction p with
  | nil => intro i; rw [show qt c [] = [] from rfl, co_nil, co_nil, ti_zero, pl_zero]
  | cons y p ih =>
    intro i
    rw [co_succ, qt, co_succ]
    cases i with
    | zero => rw [co_zero, co_qt_zero c p, pl_comm]
    | succ i => rw [co_succ]; exact ih i
theorem qt_beyond (c : El) (p : List El) (n : Nat) (h : ∀ i, n + 1 ≤ i → co p i = 0) : ∀ i, n ≤ i → co (qt c p) i = 0 := by
  have key : ∀ (p : List El) (n : Nat), (∀ i, n + 1 ≤ i → co p i = 0) → ∀ i, n ≤ i → co (qt c p) i = 0 := by
    intro p
    induction p with
    | nil => intro n _ i _; exact co_nil i
    | cons y p ih =>
      intro n h i hi
      cases n with
      | zero =>
        have hz : ∀ j, co p j = 0 := fun j => by have := h (j + 1) (by omega); rwa [co_succ] at this
        cases i with
        | zero => rw [qt, co_zero, ev_zero p hz]
        | succ i => rw [qt, co_succ]; exact ih 0 (fun j _ => hz j) i (by omega)
      | succ n =>
        obtain ⟨i, rfl⟩ : ∃ k, i = k + 1 := ⟨i - 1, by omega⟩
        rw [qt, co_succ]
        exact ih n (fun j hj => by have := h (j + 1) (by omega); rwa [co_succ] at this) i (by omega)
  exact key p n h
/-- one that is no longer than there are places where it is 0, each another one, is 0 -/
theorem zero_of_roots : ∀ (xs : List El) (p : List El), xs.Nodup → (∀ i, xs.length ≤ i → co p i = 0) → (∀ x ∈ xs, ev p x = 0) → ∀ i, co p i = 0 := by
  intro xs
  induction xs with
  | nil => intro p _ h _ i; exact h i (Nat.zero_le _)
  | cons c xs ih =>
    intro p hn hl hz
    have hc := hz c (List.mem_cons_self ..)
    obtain ⟨hc1, hn1⟩ := List.nodup_cons.1 hn
    have hq := ih (qt c p) hn1 (qt_beyond c p xs.length (fun i hi => hl i (by simpa using hi))) (fun x hx => by
      have e := ev_qt c p x
      rw [hz x (List.mem_cons_of_mem _ hx), hc, pl_zero] at e
      rcases ti_eq_zero e.symm with k | k
      · exact absurd (pl_eq_zero k ▸ hx) hc1
      · exact k)
    intro i
    cases i with
    | zero => rw [co_qt_zero c p, hq 0, hc, ti_zero, pl_zero]
    | succ i => rw [co_qt c p i, hq i, hq (i + 1), ti_zero, pl_zero]
/-- through so many points, each X another one, goes one that is no longer -/
theorem through_unique (xs : List El) (p q : List El) (hn : xs.Nodup) (hp : (trim p).length ≤ xs.length) (hq : (trim q).length ≤ xs.length)
    (h : ∀ x ∈ xs, ev p x = ev q x) : trim p = trim q := by
  refine trim_ext _ _ (fun i => pl_eq_zero ?_)
  rw [← co_add]
  refine zero_of_roots xs (add p q) hn (fun i hi => ?_) (fun x hx => ?_) i
  · rw [co_add, (trim_length_iff p xs.length).1 hp i hi, (trim_length_iff q xs.length).1 hq i hi, pl_self]
  · rw [ev_add, h x hx, pl_self]
/-- the product of x less each of l -/
def made : List El → List El
  | [] => [1]
  | c :: l => mul (made l) [c, 1]
theorem ev_made (l : List El) (x : El) : ev (made l) x = 0 ↔ x ∈ l := by
  have two : ∀ c : El, ev [c, 1] x = pl c x := fun c => by show pl c (ti x (pl 1 (ti x 0))) = _; rw [ti_zero, pl_zero, ti_one]
  induction l with
  | nil =>
    constructor
    · intro h
      have : ev (made []) x = 1 := by show pl 1 (ti x 0) = 1; rw [ti_zero, pl_zero]
      rw [this] at h
      exact absurd h (by decide)
    · intro h; cases h
  | cons c l ih =>
    rw [made, ev_mul, two, List.mem_cons]
    constructor
    · intro h
      rcases ti_eq_zero h with k | k
      · exact .inr (ih.1 k)
      · exact .inl (pl_eq_zero k).symm
    · intro h
      rcases h with k | k
      · rw [k, pl_self, ti_zero]
      · rw [ih.2 k, zero_ti]
end Pol
end Go.Proofs.YtilfjahbdlepjaaGreatDoor

/- What the loops of a package of polynomials do, as plain lists: a multiple added from a place on, a product row by row, a value from the last coefficient on, a division, the one through points as Newton did. -/
namespace Go.Proofs.YtilfjahbdlepjaaGreatDoor
namespace Pol
open El
theorem ext_co {a b : List El} (hl : a.length = b.length) (h : ∀ i, co a i = co b i) : a = b := by
  refine List.ext_getElem? (fun i => ?_)
  by_cases hi : i < a.length
  · have := h i
    simp only [co, List.getD_eq_getElem?_getD] at this
    rw [List.getElem?_eq_getElem hi, List.getElem?_eq_getElem (by omega)] at this ⊢
    simpa using this
  · rw [List.getElem?_eq_none (by omega), List.getElem?_eq_none (by omega)]
theorem co_set (l : List El) (k : Nat) (v : El) (hk : k < l.length) (i : Nat) : co (l.set k v) i = if i = k then v else co l i := by
  simp only [co, List.getD_eq_getElem?_getD, List.getElem?_set]
  by_cases e : k = i
  · subst e; simp [hk]
  · rw [if_neg e, if_neg (by omega)]
theorem co_take (p : List El) (k i : Nat) : co (p.take k) i = if i < k then co p i else 0 := by
  simp only [co, List.getD_eq_getElem?_getD, List.getElem?_take]
  split <;> simp
theorem co_replicate (n i : Nat) : co (List.replicate n (0 : El)) i = 0 := by
  simp only [co, List.getD_eq_getElem?_getD, List.getElem?_replicate]
  split <;> simp
/-- L with c times p added from place o on -/
def addAt (L : List El) (o : Nat) (p : List El) (c : El) : List El :=
  (List.range L.length).map (fun j => pl (co L j) (if o ≤ j then ti (co p (j - o)) c else 0))
theorem addAt_length (L : List El) (o : Nat) (p : List El) (c : El) : (addAt L o p c).length = L.length := by simp [addAt]
theorem co_addAt (L : List El) (o : Nat) (p : List El) (c : El) (h : o + p.length ≤ L.length) (j : Nat) :
    co (addAt L o p c) j = pl (co L j) (if o ≤ j then ti (co p (j - o)) c else 0) := by
  by_cases hj : j < L.length
  · show (addAt L o p c).getD j 0 = _
    simp [addAt, hj]
  · rw [co_beyond _ _ (by rw [addAt_length]; omega), co_beyond L j (by omega), zero_pl]
    split
    · rw [co_beyond p _ (by omega), zero_ti]
    · rfl
theorem addAt_zero (L : List El) (o : Nat) (p : List El) (c : El) (h : o + p.length ≤ L.length) : addAt L o (p.take 0) c = L :=
  ext_co (addAt_length ..) (fun i => by rw [co_addAt _ _ _ _ (by simp; omega)]; simp [co_nil, zero_ti, pl_zero])
theorem addAt_step (L : List El) (o : Nat) (p : List El) (c : El) (h : o + p.length ≤ L.length) (k : Nat) (hk : k < p.length) :
    (addAt L o (p.take k) c).set (o + k) (pl (co (addAt L o (p.take k) c) (o + k)) (ti (co p k) c)) = addAt L o (p.take (k + 1)) c := by
  refine ext_co (by simp [addAt_length]) (fun i => ?_)
  have h1 : (p.take k).length ≤ p.length := by simp; omega
  have h2 : (p.take (k + 1)).length ≤ p.length := by simp; omega
  rw [co_set _ _ _ (by rw [addAt_length]; omega), co_addAt _ _ _ _ (by omega), co_addAt _ _ _ _ (by omega), co_addAt _ _ _ _ (by omega)]
  by_cases e : i = o + k
  · subst e
    rw [if_pos rfl, if_pos (by omega), if_pos (by omega), co_take, co_take, if_neg (by omega), if_pos (by omega), zero_ti, pl_zero]
    rw [show o + k - o = k by omega]
  · rw [if_neg e]
    by_cases ho : o ≤ i
    · rw [if_pos ho, if_pos ho, co_take, co_take]
      by_cases hik : i - o < k
      · rw [if_pos hik, if_pos (by omega)]
      · rw [if_neg hik, if_neg (by omega)]
    · rw [if_neg ho, if_neg ho]
theorem addAt_all (L : List El) (o : Nat) (p : List El) (c : El) (k : Nat) (h : p.length ≤ k) : addAt L o (p.take k) c = addAt L o p c := by
  rw [List.take_of_length_le h]
/-- a place more of the left factor -/
theorem co_mul_take (a b : List El) (k n : Nat) (hk : k < a.length) :
    co (mul (a.take (k + 1)) b) n = pl (co (mul (a.take k) b) n) (if k ≤ n then ti (co b (n - k)) (co a k) else 0) := by
  rw [co_mul, co_mul]
  have e : ∀ i, ti (co (a.take (k + 1)) i) (co b (n - i)) = pl (ti (co (a.take k) i) (co b (n - i))) (if i = k then ti (co b (n - k)) (co a k) else 0) := by
    intro i
    rw [co_take, co_take]
    by_cases h1 : i < k
    · rw [if_pos h1, if_pos (by omega), if_neg (by omega), pl_zero]
    · by_cases h2 : i = k
      · subst h2; rw [if_pos (by omega), if_neg h1, if_pos rfl, zero_ti, zero_pl, ti_comm]
      · rw [if_neg (by omega), if_neg h1, if_neg h2, zero_ti, pl_zero]
  rw [sm_congr _ (fun i _ => e i), sm_pl]
  congr 1
  by_cases hkn : k ≤ n
  · rw [if_pos hkn, sm_one (n + 1) k (by omega) (fun i _ hi => if_neg hi), if_pos rfl]
  · rw [if_neg hkn]
    exact sm_zero _ (fun i hi => if_neg (by omega))
/-- what the row holds behind k rounds of a product -/
theorem prod_start (a b : List El) : ∀ j, co (List.replicate (a.length + b.length) (0 : El)) j = co (mul (a.take 0) b) j := by
  intro j; rw [co_replicate, List.take_zero, mul, co_nil]
theorem prod_step (a b L : List El) (k : Nat) (hk : k < a.length) (hl : L.length = a.length + b.length) (h : ∀ j, co L j = co (mul (a.take k) b) j) :
    ∀ j, co (addAt L k b (co a k)) j = co (mul (a.take (k + 1)) b) j := by
  intro j
  rw [co_addAt _ _ _ _ (by omega), h j, co_mul_take a b k j hk]
theorem prod_end (a b L : List El) (k : Nat) (hk : a.length ≤ k) (h : ∀ j, co L j = co (mul (a.take k) b) j) : trim L = trim (mul a b) :=
  trim_ext _ _ (fun j => by rw [h j, List.take_of_length_le hk])
/-- a value, from the last coefficient on -/
theorem ev_drop (p : List El) (k : Nat) (hk : k < p.length) (x : El) : ev (p.drop k) x = pl (ti (ev (p.drop (k + 1)) x) x) (co p k) := by
  rw [List.drop_eq_getElem_cons hk, ev, pl_comm, ti_comm]
  congr 1
  simp [co, hk]
theorem ev_drop_all (p : List El) (k : Nat) (hk : p.length ≤ k) (x : El) : ev (p.drop k) x = 0 := by
  rw [List.drop_of_length_le hk]; rfl
/-- how many are left without noughts at the end -/
theorem trim_take (p : List El) : trim p = p.take (trim p).length := by
  refine ext_co (by rw [List.length_take]; have := trim_length_le p; omega) (fun i => ?_)
  rw [co_trim, co_take]
  by_cases h : i < (trim p).length
  · rw [if_pos h]
  · rw [if_neg h]; exact (trim_length_iff p (trim p).length).1 (Nat.le_refl _) i (by omega)
theorem trim_len_of (p : List El) (n : Nat) (h : ∀ i, n ≤ i → co p i = 0) (h0 : n = 0 ∨ co p (n - 1) ≠ 0) : (trim p).length = n := by
  have h1 := (trim_length_iff p n).2 h
  rcases h0 with h0 | h0
  · omega
  · by_cases e : (trim p).length = n
    · exact e
    · exact absurd ((trim_length_iff p (n - 1)).1 (by omega) (n - 1) (Nat.le_refl _)) h0
theorem trim_id (p : List El) (h : p = [] ∨ co p (p.length - 1) ≠ 0) : trim p = p := by
  have := trim_len_of p p.length (fun i hi => co_beyond p i hi) (h.elim (fun e => .inl (by rw [e]; rfl)) .inr)
  rw [trim_take p, this, List.take_length]
theorem trim_last (p : List El) (h : trim p ≠ []) : co (trim p) ((trim p).length - 1) ≠ 0 := by
  rw [co_trim]; exact trim_top p h
theorem trim_take_trim (p : List El) (n : Nat) (h : n = (trim p).length) : trim (p.take n) = p.take n := by
  rw [h, ← trim_take, trim_trim]
/-- the sum, into a row of noughts -/
theorem sum_end (a b : List El) (n : Nat) (ha : a.length ≤ n) (hb : b.length ≤ n) :
    trim (addAt (addAt (List.replicate n (0 : El)) 0 a 1) 0 b 1) = trim (add a b) := by
  refine trim_ext _ _ (fun j => ?_)
  rw [co_addAt _ _ _ _ (by rw [addAt_length]; simp; omega), co_addAt _ _ _ _ (by simp; omega), co_replicate, co_add]
  simp [zero_pl, ti_one]
/-- one step of a division: what is divided is still so often, and the rest -/
theorem div_step (a b often left : List El) (hb : b ≠ []) (hll : b.length ≤ left.length)
    (ho : left.length ≤ often.length)
    (h0 : co often (left.length - b.length) = 0)
    (h : ∀ i, co a i = pl (co (mul often b) i) (co left i)) (f : El) :
    ∀ i, co a i = pl (co (mul (often.set (left.length - b.length) f) b) i) (co (addAt left (left.length - b.length) b f) i) := by
  intro i
  have hbl : 0 < b.length := List.length_pos_iff.2 hb
  rw [co_addAt _ _ _ _ (by omega), h i]
  have e : ∀ i, co (often.set (left.length - b.length) f) i = pl (co often i) (if i = left.length - b.length then f else 0) := by
    intro i
    rw [co_set _ _ _ (by omega)]
    by_cases e : i = left.length - b.length
    · rw [if_pos e, if_pos e, e, h0, zero_pl]
    · rw [if_neg e, if_neg e, pl_zero]
  have e2 : co (mul (often.set (left.length - b.length) f) b) i = pl (co (mul often b) i) (if left.length - b.length ≤ i then ti f (co b (i - (left.length - b.length))) else 0) := by
    rw [co_mul, co_mul, sm_congr (i + 1) (g := fun j => pl (ti (co often j) (co b (i - j))) (if j = left.length - b.length then ti f (co b (i - (left.length - b.length))) else 0)), sm_pl]
    · congr 1
      by_cases hk : left.length - b.length ≤ i
      · rw [if_pos hk, sm_one (i + 1) (left.length - b.length) (by omega) (fun j _ hj => if_neg hj), if_pos rfl]
      · rw [if_neg hk]; exact sm_zero _ (fun j hj => if_neg (by omega))
    · intro j _
      rw [e j, pl_ti]
      congr 1
      by_cases hj : j = left.length - b.length
      · rw [if_pos hj, if_pos hj, hj]
      · rw [if_neg hj, if_neg hj, zero_ti]
  rw [e2]
  by_cases hk : left.length - b.length ≤ i
  · rw [if_pos hk, if_pos hk, ti_comm f]
    rw [pl_swap, pl_self, pl_zero]
  · rw [if_neg hk, if_neg hk, pl_zero, pl_zero]
/-- and the last coefficient is gone -/
theorem div_top (b left : List El) (hb : b ≠ []) (hlb : co b (b.length - 1) ≠ 0) (hll : b.length ≤ left.length) :
    ∀ i, left.length - 1 ≤ i → co (addAt left (left.length - b.length) b (ti (co left (left.length - 1)) (iv (co b (b.length - 1))))) i = 0 := by
  intro i hi
  have hbl : 0 < b.length := List.length_pos_iff.2 hb
  rw [co_addAt _ _ _ _ (by omega), if_pos (by omega)]
  by_cases e : i = left.length - 1
  · subst e
    rw [show left.length - 1 - (left.length - b.length) = b.length - 1 by omega, ← ti_assoc, ti_comm (co b _), ti_assoc, ti_iv hlb, ti_one, pl_self]
  · rw [co_beyond left i (by omega), co_beyond b _ (by omega), zero_ti, pl_self]
end Pol
end Go.Proofs.YtilfjahbdlepjaaGreatDoor

/- Invariants of a division and of Newton's way through points, and that what comes of them is the only one of its kind. -/
namespace Go.Proofs.YtilfjahbdlepjaaGreatDoor
namespace Pol
open El
theorem co_mul_congr (a a' b b' : List El) (ha : ∀ i, co a i = co a' i) (hb : ∀ i, co b i = co b' i) (n : Nat) : co (mul a b) n = co (mul a' b') n := by
  rw [co_mul, co_mul]; exact sm_congr _ (fun i _ => by rw [ha, hb])
/-- so often, and the rest -/
def DivOk (a b q r : List El) : Prop :=
  trim q = q ∧ trim r = r ∧ r.length < (trim b).length ∧ q.length ≤ (trim a).length ∧ ∀ i, co a i = pl (co (mul q b) i) (co r i)
def DivInv (a b often left : List El) : Prop :=
  trim left = left ∧ often.length = (trim a).length ∧ left.length ≤ often.length ∧ (∀ i, i + b.length ≤ left.length → co often i = 0) ∧ ∀ i, co a i = pl (co (mul often b) i) (co left i)
theorem div_start (a b : List El) : DivInv a b (List.replicate (trim a).length 0) (trim a) := by
  refine ⟨trim_trim a, by simp, by simp, fun i _ => co_replicate _ i, fun i => ?_⟩
  rw [co_trim, mul_zero_left _ _ (fun i => co_replicate _ i), zero_pl]
theorem div_round (a b often left : List El) (hb : trim b ≠ []) (hbb : trim b = b) (h : DivInv a b often left) (hl : b.length ≤ left.length) :
    let f := ti (co left (left.length - 1)) (iv (co b (b.length - 1)))
    let left' := addAt left (left.length - b.length) b f
    (trim left').length < left.length ∧ DivInv a b (often.set (left.length - b.length) f) (left'.take (trim left').length) := by
  intro f left'
  obtain ⟨h1, h2, h3, h4, h5⟩ := h
  have hb0 : b ≠ [] := hbb ▸ hb
  have hlb : co b (b.length - 1) ≠ 0 := by have := trim_last b hb; rwa [hbb] at this
  have hbl : 0 < b.length := List.length_pos_iff.2 hb0
  have ht := div_top b left hb0 hlb hl
  have hs := div_step a b often left hb0 hl h3 (h4 _ (by omega)) h5 f
  have hlt : (trim left').length ≤ left.length - 1 := (trim_length_iff left' (left.length - 1)).2 ht
  refine ⟨by omega, trim_take_trim left' _ rfl, by simpa using h2, by rw [List.length_set, List.length_take, addAt_length]; omega, fun i hi => ?_, fun i => ?_⟩
  · rw [List.length_take, addAt_length] at hi
    rw [co_set _ _ _ (by omega), if_neg (by omega)]
    exact h4 i (by omega)
  · rw [hs i]
    congr 1
    rw [← trim_take, co_trim]
theorem div_done (a b often left : List El) (h : DivInv a (trim b) often left) (hl : left.length < (trim b).length) : DivOk a b (trim often) left := by
  obtain ⟨h1, h2, h3, h4, h5⟩ := h
  refine ⟨trim_trim _, h1, hl, by have := trim_length_le often; omega, fun i => ?_⟩
  rw [h5 i]
  congr 1
  exact co_mul_congr _ _ _ _ (fun i => (co_trim _ i).symm) (fun i => co_trim b i) i
theorem DivOk.same {a b q r q' r' : List El} (h : DivOk a b q r) (h' : DivOk a b q' r') : q = q' ∧ r = r' := by
  obtain ⟨a1, a2, a3, _, a4⟩ := h
  obtain ⟨b1, b2, b3, _, b4⟩ := h'
  have := div_unique b q q' r r' (by rwa [a2]) (by rwa [b2]) (fun i => by rw [← a4 i, ← b4 i])
  rwa [a1, a2, b1, b2] at this
theorem DivOk.back {a b q r : List El} (h : DivOk a b q r) : trim (add (trim (mul q b)) r) = trim a :=
  trim_ext _ _ (fun i => by rw [co_add, co_trim, h.2.2.2.2 i])
theorem DivOk.short {a b q r : List El} (h : DivOk a b q r) (n : Nat) (ha : a.length ≤ n) (hb : b.length ≤ n) : (trim (mul q b)).length ≤ n := by
  refine (trim_length_iff _ _).2 (fun i hi => ?_)
  have e := h.2.2.2.2 i
  have h3 := h.2.2.1
  have := trim_length_le b
  rw [co_beyond a i (by omega), co_beyond r i (by omega), pl_zero] at e
  exact e.symm
/-- 0 just at the first k of X, and one coefficient more than they are -/
def Van (X : Nat → El) (k : Nat) (V : List El) : Prop :=
  V.length = k + 1 ∧ trim V = V ∧ ∀ x, ev V x = 0 ↔ ∃ j, j < k ∧ X j = x
theorem two_ev (c x : El) : ev [c, 1] x = pl c x := by
  show pl c (ti x (pl 1 (ti x 0))) = _; rw [ti_zero, pl_zero, ti_one]
theorem two_trim (c : El) : trim [c, 1] = [c, 1] := trim_id _ (.inr (by show (1 : El) ≠ 0; decide))
theorem one_trim : trim [(1 : El)] = [1] := trim_id _ (.inr (by show (1 : El) ≠ 0; decide))
theorem van_start (X : Nat → El) : Van X 0 [1] := by
  refine ⟨rfl, one_trim, fun x => ?_⟩
  have : ev [(1 : El)] x = 1 := by show pl 1 (ti x 0) = 1; rw [ti_zero, pl_zero]
  rw [this]
  constructor
  · intro h; exact absurd h (by decide)
  · rintro ⟨j, hj, _⟩; omega
theorem van_step (X : Nat → El) (k : Nat) (V : List El) (h : Van X k V) : Van X (k + 1) (trim (mul V [X k, 1])) := by
  obtain ⟨h1, h2, h3⟩ := h
  have n1 : trim V ≠ [] := by rw [h2]; intro e; rw [e] at h1; simp at h1
  have n2 : trim [X k, 1] ≠ [] := by rw [two_trim]; simp
  refine ⟨?_, trim_trim _, fun x => ?_⟩
  · rw [mul_length V _ n1 n2, h2, two_trim, h1]; simp
  · rw [ev_trim, ev_mul, two_ev]
    constructor
    · intro h
      rcases ti_eq_zero h with e | e
      · obtain ⟨j, hj, hx⟩ := (h3 x).1 e; exact ⟨j, by omega, hx⟩
      · exact ⟨k, by omega, pl_eq_zero e⟩
    · rintro ⟨j, hj, hx⟩
      by_cases e : j = k
      · subst e; rw [hx, pl_self, ti_zero]
      · rw [(h3 x).2 ⟨j, by omega, hx⟩, zero_ti]
theorem ev_addAt (L p : List El) (c x : El) (h : p.length ≤ L.length) : ev (addAt L 0 p c) x = pl (ev L x) (ti c (ev p x)) := by
  rw [ev_ext (addAt L 0 p c) (add L (scale c p)), ev_add, ev_scale]
  intro i
  rw [co_addAt _ _ _ _ (by omega), co_add, co_scale, if_pos (Nat.zero_le _), Nat.sub_zero, ti_comm]
/-- through the first k points, with k coefficients -/
def Thr (X Y : Nat → El) (k : Nat) (T : List El) : Prop := (∀ i, k ≤ i → co T i = 0) ∧ ∀ j, j < k → ev T (X j) = Y j
theorem thr_start (X Y : Nat → El) (n : Nat) : Thr X Y 0 (List.replicate n 0) := ⟨fun i _ => co_replicate n i, fun j hj => by omega⟩
theorem thr_not (X : Nat → El) (n k : Nat) (V : List El) (hd : ∀ i j, i < j → j < n → X i ≠ X j) (hk : k < n) (hV : Van X k V) : ev V (X k) ≠ 0 := by
  intro h
  obtain ⟨j, hj, hx⟩ := (hV.2.2 _).1 h
  exact hd j k hj hk hx
theorem thr_step (X Y : Nat → El) (n k : Nat) (T V : List El) (hd : ∀ i j, i < j → j < n → X i ≠ X j) (hk : k < n) (hl : T.length = n) (hT : Thr X Y k T) (hV : Van X k V) :
    Thr X Y (k + 1) (addAt T 0 V (ti (pl (Y k) (ev T (X k))) (iv (ev V (X k))))) := by
  have hne := thr_not X n k V hd hk hV
  have hvl := hV.1
  refine ⟨fun i hi => ?_, fun j hj => ?_⟩
  · rw [co_addAt _ _ _ _ (by omega), hT.1 i (by omega), if_pos (by omega), co_beyond V _ (by omega), zero_ti, pl_self]
  · rw [ev_addAt _ _ _ _ (by omega)]
    by_cases e : j = k
    · subst e
      rw [ti_assoc, iv_ti hne, ti_one, pl_comm (Y j), pl_pl_self]
    · rw [hT.2 j (by omega), (hV.2.2 (X j)).2 ⟨j, by omega, rfl⟩, ti_zero, pl_zero]
/-- the one through n points -/
def Through (X Y : Nat → El) (n : Nat) (p : List El) : Prop := trim p = p ∧ p.length ≤ n ∧ ∀ j, j < n → ev p (X j) = Y j
theorem thr_done (X Y : Nat → El) (n : Nat) (T : List El) (h : Thr X Y n T) : Through X Y n (trim T) :=
  ⟨trim_trim _, (trim_length_iff T n).2 h.1, fun j hj => by rw [ev_trim]; exact h.2 j hj⟩
theorem nodup_of (X : Nat → El) (n : Nat) (hd : ∀ i j, i < j → j < n → X i ≠ X j) : ((List.range n).map X).Nodup := by
  rw [List.nodup_iff_pairwise_ne, List.pairwise_map]
  exact List.Pairwise.imp_of_mem (fun {a b} ha hb hab => hd a b hab (List.mem_range.1 hb)) (List.pairwise_lt_range)
theorem Through.same {X Y : Nat → El} {n : Nat} {p q : List El} (hd : ∀ i j, i < j → j < n → X i ≠ X j) (h : Through X Y n p) (h' : Through X Y n q) : p = q := by
  have := through_unique ((List.range n).map X) p q (nodup_of X n hd) (by rw [h.1]; simpa using h.2.1) (by rw [h'.1]; simpa using h'.2.1) (fun x hx => by
    obtain ⟨j, hj, rfl⟩ := List.mem_map.1 hx
    rw [h.2.2 j (List.mem_range.1 hj), h'.2.2 j (List.mem_range.1 hj)])
  rwa [h.1, h'.1] at this
/-- by a factor without a rest, just if it is 0 there -/
theorem rest_root {p q r : List El} {x : El} (h : DivOk p [x, 1] q r) : r = [] ↔ ev p x = 0 := by
  obtain ⟨_, h2, h3, _, h5⟩ := h
  rw [two_trim] at h3
  have e : ev p x = ev r x := by
    rw [ev_ext p (add (mul q [x, 1]) r) (fun i => by rw [co_add]; exact h5 i), ev_add, ev_mul, two_ev, pl_self, ti_zero, zero_pl]
  rw [e]
  match r, h2, h3 with
  | [], _, _ => simp [ev]
  | [c], h2, _ =>
    constructor
    · intro h; simp at h
    · intro h
      have hc : c = 0 := by have : ev [c] x = c := by (show pl c (ti x 0) = c; rw [ti_zero, pl_zero])
                            rw [← this]; exact h
      subst hc
      have : trim [(0 : El)] = [] := rfl
      rw [this] at h2
      simp at h2
  | _ :: _ :: _, _, h3 => simp at h3; omega
end Pol
end Go.Proofs.YtilfjahbdlepjaaGreatDoor

/- Matrices over the field of 256 as functions of row and column: products, that more vectors than there are places hang together, ranks, inverses: each is the only one of its kind. -/
namespace Go.Proofs.YtilfjahbdlepjaaGreatDoor
namespace Mx
open El Pol
abbrev M := Nat → Nat → El
theorem sm_ti_right (n : Nat) (c : El) (f : Nat → El) : sm n (fun i => ti (f i) c) = ti (sm n f) c := by
  rw [ti_comm, ← sm_ti]; exact sm_congr _ (fun i _ => ti_comm _ _)
theorem sm_swap (n m : Nat) (f : Nat → Nat → El) : sm n (fun i => sm m (fun j => f i j)) = sm m (fun j => sm n (fun i => f i j)) := by
  induction n with
  | zero => exact (sm_zero m (fun j _ => rfl)).symm
  | succ n ih => rw [sm, ih, ← sm_pl]; rfl
/-- the product, of n places in the middle -/
def mm (n : Nat) (A B : M) : M := fun i k => sm n (fun j => ti (A i j) (B j k))
def one : M := fun i j => if i = j then 1 else 0
/-- alike in p rows and q columns -/
def Eqm (p q : Nat) (A B : M) : Prop := ∀ i j, i < p → j < q → A i j = B i j
theorem Eqm.refl (p q : Nat) (A : M) : Eqm p q A A := fun _ _ _ _ => rfl
theorem Eqm.symm {p q : Nat} {A B : M} (h : Eqm p q A B) : Eqm p q B A := fun i j hi hj => (h i j hi hj).symm
theorem Eqm.trans {p q : Nat} {A B C : M} (h : Eqm p q A B) (k : Eqm p q B C) : Eqm p q A C := fun i j hi hj => (h i j hi hj).trans (k i j hi hj)
theorem Eqm.mono {p q p' q' : Nat} {A B : M} (h : Eqm p q A B) (hp : p' ≤ p) (hq : q' ≤ q) : Eqm p' q' A B := fun i j hi hj => h i j (by omega) (by omega)
theorem mm_congr {p n q : Nat} {A A' B B' : M} (hA : Eqm p n A A') (hB : Eqm n q B B') : Eqm p q (mm n A B) (mm n A' B') :=
  fun i j hi hj => sm_congr _ (fun k hk => by rw [hA i k hi hk, hB k j hk hj])
theorem mm_assoc (n m : Nat) (A B C : M) : mm m (mm n A B) C = mm n A (mm m B C) := by
  funext i l
  show sm m (fun k => ti (sm n (fun j => ti (A i j) (B j k))) (C k l)) = sm n (fun j => ti (A i j) (sm m (fun k => ti (B j k) (C k l))))
  rw [sm_congr m (g := fun k => sm n (fun j => ti (A i j) (ti (B j k) (C k l)))) (fun k _ => by
    rw [← sm_ti_right]; exact sm_congr _ (fun j _ => ti_assoc _ _ _)), sm_swap]
  exact sm_congr _ (fun j _ => sm_ti m _ _)
theorem one_mm (n : Nat) (A : M) (i k : Nat) (hi : i < n) : mm n one A i k = A i k := by
  show sm n (fun j => ti (one i j) (A j k)) = _
  rw [sm_one n i hi (fun j _ hj => by unfold one; rw [if_neg (by omega), zero_ti])]
  unfold one; rw [if_pos rfl, one_ti]
theorem mm_one (n : Nat) (A : M) (i k : Nat) (hk : k < n) : mm n A one i k = A i k := by
  show sm n (fun j => ti (A i j) (one j k)) = _
  rw [sm_one n k hk (fun j _ hj => by unfold one; rw [if_neg hj, ti_zero])]
  unfold one; rw [if_pos rfl, ti_one]
theorem one_mm' (n q : Nat) (A : M) : Eqm n q (mm n one A) A := fun i k hi _ => one_mm n A i k hi
theorem mm_one' (p n : Nat) (A : M) : Eqm p n (mm n A one) A := fun i k _ hk => mm_one n A i k hk
/-- one place left out -/
def skip (p i : Nat) : Nat := if i < p then i else i + 1
theorem sm_skip (f : Nat → El) (p : Nat) : ∀ m, p < m + 1 → sm (m + 1) f = pl (sm m (fun i => f (skip p i))) (f p)
  | 0, h => by rw [show p = 0 by omega]; rfl
  | m + 1, h => by
    by_cases e : p = m + 1
    · rw [sm, e]
      congr 1
      exact sm_congr _ (fun i hi => by unfold skip; rw [if_pos hi])
    · rw [sm, sm_skip f p m (by omega), sm, show skip p m = m + 1 from by unfold skip; rw [if_neg (by omega)], pl_assoc, pl_comm (f p), ← pl_assoc]
theorem skip_ne (p i : Nat) : skip p i ≠ p := by unfold skip; split <;> omega
theorem skip_lt {p i m : Nat} (h : i < m) : skip p i < m + 1 := by unfold skip; split <;> omega
theorem skip_inj {p i j : Nat} (h : skip p i = skip p j) : i = j := by unfold skip at h; split at h <;> split at h <;> omega
def unskip (p i : Nat) : Nat := if i < p then i else i - 1
theorem back_skip (p i : Nat) : unskip p (skip p i) = i := by
  unfold unskip skip
  by_cases h : i < p
  · rw [if_pos h, if_pos h]
  · rw [if_neg h, if_neg (by omega)]; omega
theorem skip_back {p i : Nat} (h : i ≠ p) : skip p (unskip p i) = i := by
  unfold unskip skip
  by_cases k : i < p
  · rw [if_pos k, if_pos k]
  · rw [if_neg k, if_neg (by omega)]; omega
theorem back_lt {p i m : Nat} (h : i < m + 1) (hp : p < m + 1) (hne : i ≠ p) : unskip p i < m := by unfold unskip; split <;> omega
/-- more rows than columns: they hang together -/
theorem depend : ∀ (r m : Nat) (C : M), r < m → ∃ l : Nat → El, (∃ i, i < m ∧ l i ≠ 0) ∧ ∀ k, k < r → sm m (fun i => ti (l i) (C i k)) = 0
  | 0, m, C, h => ⟨fun _ => 1, ⟨0, h, by decide⟩, fun k hk => by omega⟩
  | r + 1, m, C, h => by
    by_cases hz : ∀ i, i < m → C i r = 0
    · obtain ⟨l, hl, hk⟩ := depend r m C (by omega)
      refine ⟨l, hl, fun k hkr => ?_⟩
      by_cases e : k = r
      · subst e; exact sm_zero _ (fun i hi => by rw [hz i hi, ti_zero])
      · exact hk k (by omega)
    · obtain ⟨p, hp⟩ := Classical.not_forall.1 hz
      obtain ⟨hpm, hpr⟩ := Classical.not_imp.1 hp
      obtain ⟨m', rfl⟩ : ∃ m', m = m' + 1 := ⟨m - 1, by omega⟩
      let t : Nat → El := fun i => ti (C i r) (iv (C p r))
      obtain ⟨u, ⟨j, hj, hju⟩, hu⟩ := depend r m' (fun i k => pl (C (skip p i) k) (ti (t (skip p i)) (C p k))) (by omega)
      let back : Nat → Nat := unskip p
      have hback : ∀ i, back (skip p i) = i := back_skip p
      let l : Nat → El := fun i => if i = p then sm m' (fun i => ti (u i) (t (skip p i))) else u (back i)
      have hl1 : ∀ i, l (skip p i) = u i := fun i => by
        show (if skip p i = p then _ else u (back (skip p i))) = u i
        rw [if_neg (skip_ne p i), hback]
      have hl2 : l p = sm m' (fun i => ti (u i) (t (skip p i))) := if_pos rfl
      refine ⟨l, ⟨skip p j, skip_lt hj, by rw [hl1]; exact hju⟩, fun k hk => ?_⟩
      have main : sm (m' + 1) (fun i => ti (l i) (C i k)) = sm m' (fun i => ti (u i) (pl (C (skip p i) k) (ti (t (skip p i)) (C p k)))) := by
        rw [sm_skip _ p m' hpm, sm_congr m' (g := fun i => ti (u i) (C (skip p i) k)) (fun i _ => by rw [hl1]), hl2, ← sm_ti_right, ← sm_pl]
        exact sm_congr _ (fun i _ => by rw [ti_pl, ti_assoc])
      rw [main]
      by_cases e : k = r
      · subst e
        refine sm_zero _ (fun i _ => ?_)
        rw [show ti (t (skip p i)) (C p k) = C (skip p i) k from by (show ti (ti (C (skip p i) k) (iv (C p k))) (C p k) = _); rw [ti_assoc, iv_ti hpr, ti_one], pl_self, ti_zero]
      · exact hu k (by omega)
/-- the identity of r places goes through no fewer -/
theorem through_no_fewer {r s : Nat} {P Q : M} (h : Eqm r r (mm s P Q) one) : r ≤ s := by
  rcases Nat.lt_or_ge s r with hlt | hge
  · exfalso
    obtain ⟨l, ⟨j, hj, hlj⟩, hk⟩ := depend s r P hlt
    have h1 : sm r (fun i => ti (l i) (mm s P Q i j)) = 0 := by
      rw [sm_congr r (g := fun i => sm s (fun k => ti (ti (l i) (P i k)) (Q k j))) (fun i _ => by
        (show ti (l i) (sm s (fun k => ti (P i k) (Q k j))) = _); rw [← sm_ti]; exact sm_congr _ (fun k _ => (ti_assoc _ _ _).symm)), sm_swap]
      exact sm_zero _ (fun k hks => by rw [sm_ti_right, hk k hks, zero_ti])
    rw [sm_congr r (g := fun i => ti (l i) (one i j)) (fun i hi => by rw [h i j hi hj])] at h1
    rw [sm_one r j hj (fun i _ hij => by unfold one; rw [if_neg hij, ti_zero])] at h1
    unfold one at h1
    rw [if_pos rfl, ti_one] at h1
    exact hlj h1
  · exact hge
/-- p rows, q columns: of rank r -/
def Rk (p q : Nat) (A : M) (r : Nat) : Prop := (∃ G S : M, Eqm r r (mm q (mm p G A) S) one) ∧ ∃ L U : M, Eqm p q A (mm r L U)
theorem rk_le {p q : Nat} {A : M} {r s : Nat} (h : ∃ G S : M, Eqm r r (mm q (mm p G A) S) one) (k : ∃ L U : M, Eqm p q A (mm s L U)) : r ≤ s := by
  obtain ⟨G, S, h⟩ := h
  obtain ⟨L, U, k⟩ := k
  refine through_no_fewer (P := mm p G L) (Q := mm q U S) (Eqm.trans ?_ h)
  rw [mm_assoc p s G L, ← mm_assoc s q L U, ← mm_assoc p q G]
  exact mm_congr (mm_congr (Eqm.refl _ _ _) k.symm) (Eqm.refl _ _ _)
theorem Rk.same {p q : Nat} {A : M} {r s : Nat} (h : Rk p q A r) (k : Rk p q A s) : r = s := Nat.le_antisymm (rk_le h.1 k.2) (rk_le k.1 h.2)
theorem Rk.congr {p q : Nat} {A B : M} {r : Nat} (h : Rk p q A r) (e : Eqm p q A B) : Rk p q B r := by
  obtain ⟨⟨G, S, h1⟩, L, U, h2⟩ := h
  exact ⟨⟨G, S, (mm_congr (mm_congr (Eqm.refl _ _ _) e.symm) (Eqm.refl _ _ _)).trans h1⟩, L, U, e.symm.trans h2⟩
/-- a product has no more rank than either -/
theorem Rk.mul_left {p n q : Nat} {A B : M} {r s : Nat} (h : Rk p q (mm n A B) r) (k : Rk p n A s) : r ≤ s := by
  obtain ⟨L, U, k⟩ := k.2
  exact rk_le h.1 ⟨L, mm n U B, by rw [← mm_assoc]; exact mm_congr k (Eqm.refl _ _ _)⟩
theorem Rk.mul_right {p n q : Nat} {A B : M} {r s : Nat} (h : Rk p q (mm n A B) r) (k : Rk n q B s) : r ≤ s := by
  obtain ⟨L, U, k⟩ := k.2
  exact rk_le h.1 ⟨mm n A L, U, by rw [mm_assoc]; exact mm_congr (Eqm.refl _ _ _) k⟩
theorem Rk.le_rows {p q : Nat} {A : M} {r : Nat} (h : Rk p q A r) : r ≤ p := rk_le h.1 ⟨one, A, (one_mm' p q A).symm⟩
theorem Rk.le_cols {p q : Nat} {A : M} {r : Nat} (h : Rk p q A r) : r ≤ q := rk_le h.1 ⟨A, one, (mm_one' p q A).symm⟩
/-- by which it is the identity, on either side -/
def Inv (n : Nat) (A B : M) : Prop := Eqm n n (mm n A B) one ∧ Eqm n n (mm n B A) one
theorem Inv.symm {n : Nat} {A B : M} (h : Inv n A B) : Inv n B A := ⟨h.2, h.1⟩
theorem left_right {n : Nat} {A B C : M} (h : Eqm n n (mm n B A) one) (k : Eqm n n (mm n A C) one) : Eqm n n B C := by
  have e1 : Eqm n n (mm n B (mm n A C)) B := (mm_congr (Eqm.refl _ _ _) k).trans (mm_one' n n B)
  have e2 : Eqm n n (mm n (mm n B A) C) C := (mm_congr h (Eqm.refl _ _ _)).trans (one_mm' n n C)
  rw [mm_assoc] at e2
  exact e1.symm.trans e2
theorem Inv.same {n : Nat} {A B C : M} (h : Inv n A B) (k : Inv n A C) : Eqm n n B C := left_right h.2 k.1
theorem Inv.congr {n : Nat} {A A' B B' : M} (h : Inv n A B) (ea : Eqm n n A A') (eb : Eqm n n B B') : Inv n A' B' :=
  ⟨(mm_congr ea.symm eb.symm).trans h.1, (mm_congr eb.symm ea.symm).trans h.2⟩
theorem Inv.mul {n : Nat} {A B A' B' : M} (h : Inv n A A') (k : Inv n B B') : Inv n (mm n A B) (mm n B' A') := by
  have half : ∀ {P Q P' Q' : M}, Eqm n n (mm n P P') one → Eqm n n (mm n Q Q') one → Eqm n n (mm n (mm n P Q) (mm n Q' P')) one := by
    intro P Q P' Q' hp hq
    rw [mm_assoc n n P Q, ← mm_assoc n n Q Q' P']
    exact (mm_congr (Eqm.refl _ _ _) ((mm_congr hq (Eqm.refl _ _ _)).trans (one_mm' n n P'))).trans hp
  exact ⟨half h.1 k.1, half k.2 h.2⟩
theorem Inv.rk {n : Nat} {A B : M} (h : Inv n A B) : Rk n n A n :=
  ⟨⟨B, one, (mm_one' n n _).trans h.2⟩, A, one, (mm_one' n n A).symm⟩
/-- something that is not nought is turned into nought -/
def Sing (n : Nat) (A : M) : Prop := ∃ v : Nat → El, (∃ j, j < n ∧ v j ≠ 0) ∧ ∀ i, i < n → sm n (fun j => ti (A i j) (v j)) = 0
theorem Sing.congr {n : Nat} {A B : M} (h : Sing n A) (e : Eqm n n A B) : Sing n B := by
  obtain ⟨v, hv, hz⟩ := h
  exact ⟨v, hv, fun i hi => by rw [← hz i hi]; exact sm_congr _ (fun j hj => by rw [e i j hi hj])⟩
theorem Sing.none {n : Nat} {A B : M} (h : Sing n A) (k : Eqm n n (mm n B A) one) : False := by
  obtain ⟨v, ⟨j, hj, hvj⟩, hz⟩ := h
  let V : M := fun i _ => v i
  have e1 : mm n (mm n B A) V j 0 = v j := by
    have := mm_congr (q := 1) k (Eqm.refl n 1 V) j 0 hj (by omega)
    rw [this]
    exact one_mm n V j 0 hj
  rw [mm_assoc] at e1
  have e2 : mm n B (mm n A V) j 0 = 0 := sm_zero _ (fun i hi => by rw [show mm n A V i 0 = 0 from hz i hi, ti_zero])
  exact hvj (e1.symm.trans e2)
/-- fewer places in the middle than there are: something is turned into nought -/
theorem sing_of {n r : Nat} {A L U : M} (h : Eqm n n A (mm r L U)) (hr : r < n) : Sing n A := by
  obtain ⟨v, hv, hk⟩ := depend r n (fun i k => U k i) hr
  refine ⟨v, hv, fun i hi => ?_⟩
  rw [sm_congr n (g := fun j => sm r (fun k => ti (L i k) (ti (U k j) (v j)))) (fun j hj => by
    rw [h i j hi hj]; (show ti (sm r (fun k => ti (L i k) (U k j))) (v j) = _); rw [← sm_ti_right]; exact sm_congr _ (fun k _ => ti_assoc _ _ _)), sm_swap]
  refine sm_zero _ (fun k hkr => ?_)
  rw [sm_ti, sm_congr n (g := fun j => ti (v j) (U k j)) (fun j _ => ti_comm _ _), hk k hkr, ti_zero]
theorem Rk.sing {n r : Nat} {A : M} (h : Rk n n A r) (hr : r < n) : Sing n A := by
  obtain ⟨L, U, e⟩ := h.2; exact sing_of e hr
/-- what turns something into nought goes through one place fewer -/
theorem Sing.fewer {m : Nat} {A : M} (h : Sing (m + 1) A) : ∃ L U : M, Eqm (m + 1) (m + 1) A (mm m L U) := by
  obtain ⟨v, ⟨j, hj, hvj⟩, hz⟩ := h
  refine ⟨fun k i => A k (skip j i), fun i l => if l = j then ti (v (skip j i)) (iv (v j)) else if skip j i = l then 1 else 0, fun k l hk hl => ?_⟩
  show A k l = sm m (fun i => ti (A k (skip j i)) (if l = j then ti (v (skip j i)) (iv (v j)) else if skip j i = l then 1 else 0))
  by_cases e : l = j
  · have h1 := hz k hk
    rw [sm_skip _ j m hj] at h1
    have h2 := pl_eq_zero h1
    rw [sm_congr m (g := fun i => ti (ti (A k (skip j i)) (v (skip j i))) (iv (v j))) (fun i _ => by rw [if_pos e, ti_assoc]), sm_ti_right, h2, e, ti_assoc, ti_iv hvj, ti_one]
  · rw [sm_one m (unskip j l) (back_lt hl hj e) (fun i _ hi => by rw [if_neg e, if_neg (fun q => hi (by rw [← q, back_skip])), ti_zero]), if_neg e, skip_back e, if_pos rfl, ti_one]
theorem Sing.rk {n r : Nat} {A : M} (h : Sing n A) (k : Rk n n A r) : r < n := by
  obtain ⟨m, rfl⟩ : ∃ m, n = m + 1 := by
    obtain ⟨_, ⟨j, hj, _⟩, _⟩ := h
    exact ⟨n - 1, by omega⟩
  have := rk_le k.1 h.fewer
  omega
end Mx
end Go.Proofs.YtilfjahbdlepjaaGreatDoor

/- Rows that are swapped, multiplied, and added to others: stairs, what they tell of rank and inverse. -/
namespace Go.Proofs.YtilfjahbdlepjaaGreatDoor
namespace Mx
open El Pol
theorem sm_cut {r : Nat} {f : Nat → El} : ∀ p, r ≤ p → (∀ k, r ≤ k → k < p → f k = 0) → sm p f = sm r f
  | 0, h, _ => by rw [show r = 0 by omega]
  | p + 1, h, hz => by
    by_cases e : r = p + 1
    · rw [e]
    · rw [sm, sm_cut p (by omega) (fun k h1 h2 => hz k h1 (by omega)), hz p (by omega) (by omega), pl_zero]
/-- R is A, its rows turned in a way that can be turned back -/
def RowEq (p q : Nat) (A R : M) : Prop := ∃ E E' : M, Inv p E E' ∧ Eqm p q R (mm p E A)
theorem RowEq.refl (p q : Nat) (A : M) : RowEq p q A A := ⟨one, one, ⟨one_mm' p p one, one_mm' p p one⟩, (one_mm' p q A).symm⟩
theorem RowEq.trans {p q : Nat} {A R T : M} (h : RowEq p q A R) (k : RowEq p q R T) : RowEq p q A T := by
  obtain ⟨E, E', hi, he⟩ := h
  obtain ⟨F, F', ki, ke⟩ := k
  refine ⟨mm p F E, mm p E' F', ki.mul hi, ke.trans ?_⟩
  rw [mm_assoc]
  exact mm_congr (Eqm.refl _ _ _) he
theorem RowEq.congr {p q : Nat} {A R T : M} (h : RowEq p q A R) (e : Eqm p q R T) : RowEq p q A T := by
  obtain ⟨E, E', hi, he⟩ := h
  exact ⟨E, E', hi, e.symm.trans he⟩
theorem RowEq.from {p q : Nat} {A B R : M} (h : RowEq p q A R) (e : Eqm p q A B) : RowEq p q B R := by
  obtain ⟨E, E', hi, he⟩ := h
  exact ⟨E, E', hi, he.trans (mm_congr (Eqm.refl _ _ _) e)⟩
theorem RowEq.mono {p q q' : Nat} {A R : M} (h : RowEq p q A R) (hq : q' ≤ q) : RowEq p q' A R := by
  obtain ⟨E, E', hi, he⟩ := h
  exact ⟨E, E', hi, he.mono (Nat.le_refl _) hq⟩
/-- a way to turn rows that another one turns back -/
theorem rowop {p : Nat} (F F' : M → M) (h : ∀ R i j, i < p → F R i j = mm p (F one) R i j) (h' : ∀ R i j, i < p → F' R i j = mm p (F' one) R i j)
    (c : ∀ i j, i < p → F (F' one) i j = one i j) (c' : ∀ i j, i < p → F' (F one) i j = one i j) (q : Nat) (R : M) : RowEq p q R (F R) :=
  ⟨F one, F' one, ⟨fun i j hi _ => by rw [← h _ i j hi]; exact c i j hi, fun i j hi _ => by rw [← h' _ i j hi]; exact c' i j hi⟩, fun i j hi _ => h R i j hi⟩
def sw (a b i : Nat) : Nat := if i = a then b else if i = b then a else i
theorem sw_sw (a b i : Nat) : sw a b (sw a b i) = i := by unfold sw; repeat (first | split | omega)
theorem sw_lt {a b i p : Nat} (ha : a < p) (hb : b < p) (hi : i < p) : sw a b i < p := by unfold sw; repeat (first | split | omega)
theorem row_swap (p q : Nat) (a b : Nat) (ha : a < p) (hb : b < p) (R : M) : RowEq p q R (fun i j => R (sw a b i) j) := by
  have h : ∀ (R : M) i j, i < p → R (sw a b i) j = mm p (fun i j => one (sw a b i) j) R i j := fun R i j hi => (one_mm p R (sw a b i) j (sw_lt ha hb hi)).symm
  exact rowop (fun R i j => R (sw a b i) j) (fun R i j => R (sw a b i) j) h h (fun i j _ => by show one (sw a b (sw a b i)) j = _; rw [sw_sw]) (fun i j _ => by show one (sw a b (sw a b i)) j = _; rw [sw_sw]) q R
theorem row_scale (p q : Nat) (r : Nat) (f : El) (hf : f ≠ 0) (R : M) : RowEq p q R (fun i j => if i = r then ti f (R i j) else R i j) := by
  have h : ∀ (g : El) (R : M) i j, i < p → (if i = r then ti g (R i j) else R i j) = mm p (fun i j => if i = r then ti g (one i j) else one i j) R i j := by
    intro g R i j hi
    show _ = sm p (fun k => ti (if i = r then ti g (one i k) else one i k) (R k j))
    rw [sm_one p i hi (fun k _ hk => by
      have : one i k = 0 := by unfold one; rw [if_neg (by omega)]
      rw [this]; split <;> simp [ti_zero, zero_ti])]
    have : one i i = 1 := by unfold one; rw [if_pos rfl]
    rw [this]
    split
    · rw [ti_one]
    · rw [one_ti]
  refine rowop (fun R i j => if i = r then ti f (R i j) else R i j) (fun R i j => if i = r then ti (iv f) (R i j) else R i j) (h f) (h (iv f)) (fun i j _ => ?_) (fun i j _ => ?_) q R
  · show (if i = r then ti f (if i = r then ti (iv f) (one i j) else one i j) else (if i = r then ti (iv f) (one i j) else one i j)) = one i j
    by_cases e : i = r
    · rw [if_pos e, if_pos e, ← ti_assoc, ti_iv hf, one_ti]
    · rw [if_neg e, if_neg e]
  · show (if i = r then ti (iv f) (if i = r then ti f (one i j) else one i j) else (if i = r then ti f (one i j) else one i j)) = one i j
    by_cases e : i = r
    · rw [if_pos e, if_pos e, ← ti_assoc, iv_ti hf, one_ti]
    · rw [if_neg e, if_neg e]
theorem row_add (p q : Nat) (r : Nat) (hr : r < p) (t : Nat → El) (R : M) : RowEq p q R (fun i j => if i = r then R i j else pl (R i j) (ti (t i) (R r j))) := by
  have h : ∀ (R : M) i j, i < p → (if i = r then R i j else pl (R i j) (ti (t i) (R r j))) = mm p (fun i j => if i = r then one i j else pl (one i j) (ti (t i) (one r j))) R i j := by
    intro R i j hi
    show _ = sm p (fun k => ti (if i = r then one i k else pl (one i k) (ti (t i) (one r k))) (R k j))
    by_cases e : i = r
    · rw [if_pos e, sm_congr p (g := fun k => ti (one i k) (R k j)) (fun k _ => by rw [if_pos e])]
      exact (one_mm p R i j hi).symm
    · rw [if_neg e, sm_congr p (g := fun k => pl (ti (one i k) (R k j)) (ti (t i) (ti (one r k) (R k j)))) (fun k _ => by rw [if_neg e, pl_ti, ti_assoc]), sm_pl, sm_ti]
      rw [show sm p (fun k => ti (one i k) (R k j)) = R i j from one_mm p R i j hi, show sm p (fun k => ti (one r k) (R k j)) = R r j from one_mm p R r j hr]
  have c : ∀ i j, i < p → (if i = r then (if i = r then one i j else pl (one i j) (ti (t i) (one r j))) else pl (if i = r then one i j else pl (one i j) (ti (t i) (one r j))) (ti (t i) (if r = r then one r j else pl (one r j) (ti (t r) (one r j))))) = one i j := by
    intro i j _
    by_cases e : i = r
    · rw [if_pos e, if_pos e]
    · rw [if_neg e, if_neg e, if_pos rfl, pl_assoc, pl_self, pl_zero]
  exact rowop (fun R i j => if i = r then R i j else pl (R i j) (ti (t i) (R r j))) (fun R i j => if i = r then R i j else pl (R i j) (ti (t i) (R r j))) h h c c q R
/-- stairs: C columns are gone over, r rows begin with 1 at the columns piv; nothing else stands there; below, noughts -/
structure GJ (p q : Nat) (A R : M) (C r : Nat) (piv : Nat → Nat) : Prop where
  eq : RowEq p q A R
  rp : r ≤ p
  cq : C ≤ q
  rc : r ≤ C
  lt : ∀ k, k < r → piv k < C
  inc : ∀ k l, k < l → l < r → piv k < piv l
  piv : ∀ i k, i < p → k < r → R i (piv k) = one i k
  zero : ∀ i j, r ≤ i → i < p → j < C → R i j = 0
theorem gj_start (p q : Nat) (A : M) : GJ p q A A 0 0 (fun _ => 0) :=
  ⟨RowEq.refl p q A, Nat.zero_le _, Nat.zero_le _, Nat.le_refl _, fun k hk => by omega, fun k l _ hl => by omega, fun i k _ hk => by omega, fun i j _ _ hj => by omega⟩
theorem gj_skip {p q : Nat} {A R : M} {C r : Nat} {piv : Nat → Nat} (h : GJ p q A R C r piv) (hC : C < q) (hz : ∀ i, r ≤ i → i < p → R i C = 0) : GJ p q A R (C + 1) r piv :=
  ⟨h.eq, h.rp, hC, by have := h.rc; omega, fun k hk => by have := h.lt k hk; omega, h.inc, h.piv, fun i j hi hp hj => by
    by_cases e : j = C
    · rw [e]; exact hz i hi hp
    · exact h.zero i j hi hp (by omega)⟩
/-- what the rows are when row k was taken for the r-th: swapped, begun with 1, taken from the others -/
def stepped (R : M) (r k C : Nat) : M := fun i j => if i = r then ti (iv (R k C)) (R k j) else pl (R (sw r k i) j) (ti (R (sw r k i) C) (ti (iv (R k C)) (R k j)))
theorem gj_pivot {p q : Nat} {A R : M} {C r : Nat} {piv : Nat → Nat} (h : GJ p q A R C r piv) (hC : C < q) (k : Nat) (hrk : r ≤ k) (hkp : k < p) (hk : R k C ≠ 0) :
    GJ p q A (stepped R r k C) (C + 1) (r + 1) (fun m => if m = r then C else piv m) := by
  have hrp : r < p := by omega
  have swr : sw r k r = k := by unfold sw; rw [if_pos rfl]
  have swlt : ∀ i, i < r → sw r k i = i := fun i hi => by unfold sw; rw [if_neg (by omega), if_neg (by omega)]
  have swge : ∀ i, r ≤ i → r ≤ sw r k i := fun i hi => by unfold sw; repeat (first | split | omega)
  have swp : ∀ i, i < p → sw r k i < p := fun i hi => sw_lt hrp hkp hi
  have one_ne : ∀ {i j : Nat}, i ≠ j → one i j = 0 := fun h => by unfold one; rw [if_neg h]
  have one_eq : ∀ i, one i i = 1 := fun i => by unfold one; rw [if_pos rfl]
  refine ⟨?_, by omega, by omega, by have := h.rc; omega, fun m hm => ?_, fun m l hml hl => ?_, fun i m hi hm => ?_, fun i j hi hp hj => ?_⟩
  · have e1 := row_swap p q r k hrp hkp R
    have e2 := row_scale p q r (iv (R k C)) (iv_ne_zero hk) (fun i j => R (sw r k i) j)
    have e3 := row_add p q r hrp (fun i => R (sw r k i) C) (fun i j => if i = r then ti (iv (R k C)) (R (sw r k i) j) else R (sw r k i) j)
    refine (h.eq.trans (e1.trans (e2.trans e3))).congr (fun i j _ _ => ?_)
    unfold stepped
    dsimp only
    by_cases e : i = r
    · rw [if_pos e, if_pos e, if_pos e, e, swr]
    · rw [if_neg e, if_neg e, if_neg e, if_pos rfl, swr]
  · split
    · omega
    · have := h.lt m (by omega); omega
  · rw [if_neg (by omega)]
    split
    · exact h.lt m (by omega)
    · exact h.inc m l hml (by omega)
  · unfold stepped
    by_cases em : m = r
    · rw [if_pos em, em]
      by_cases e : i = r
      · rw [if_pos e, e, iv_ti hk, one_eq]
      · rw [if_neg e, iv_ti hk, ti_one, pl_self, one_ne e]
    · have hmr : m < r := by omega
      rw [if_neg em, h.piv k m hkp hmr, one_ne (by omega : k ≠ m), ti_zero]
      by_cases e : i = r
      · rw [if_pos e, e, one_ne (by omega)]
      · rw [if_neg e, ti_zero, pl_zero, h.piv _ m (swp i hi) hmr]
        by_cases hir : i < r
        · rw [swlt i hir]
        · have := swge i (by omega)
          rw [one_ne (by omega), one_ne (by omega)]
  · unfold stepped
    rw [if_neg (by omega)]
    by_cases e : j = C
    · rw [e, iv_ti hk, ti_one, pl_self]
    · rw [h.zero _ j (swge i (by omega)) (swp i hp) (by omega), h.zero k j hrk hkp (by omega), ti_zero, ti_zero, pl_zero]
theorem gj_end {p q : Nat} {A R : M} {r : Nat} {piv : Nat → Nat} (h : GJ p q A R q r piv) : Rk p q A r := by
  obtain ⟨E, E', hi, he⟩ := h.eq
  refine ⟨⟨E, fun j k => if j = piv k then 1 else 0, fun i k hir hkr => ?_⟩, E', R, fun i j hip hjq => ?_⟩
  · show sm q (fun j => ti (mm p E A i j) (if j = piv k then 1 else 0)) = _
    have hpk := h.lt k hkr
    have hip : i < p := by have := h.rp; omega
    rw [sm_one q (piv k) hpk (fun j _ hj => by rw [if_neg hj, ti_zero]), if_pos rfl, ti_one, ← he i (piv k) hip hpk]
    exact h.piv i k hip hkr
  · have e1 : Eqm p q (mm p E' R) A := by
      refine (mm_congr (Eqm.refl _ _ _) he).trans ?_
      rw [← mm_assoc]
      exact (mm_congr hi.2 (Eqm.refl _ _ _)).trans (one_mm' p q A)
    rw [← e1 i j hip hjq]
    exact sm_cut p h.rp (fun k hk hkp => by rw [h.zero k j hk hkp hjq, ti_zero])
/-- whatever is left of the columns can be gone over -/
theorem gj_all {p q : Nat} {A : M} : ∀ (d : Nat) {R : M} {C r : Nat} {piv : Nat → Nat}, GJ p q A R C r piv → q = C + d → ∃ R' r' piv', GJ p q A R' q r' piv' ∧ r' ≤ r + d
  | 0, R, C, r, piv, h, e => ⟨R, r, piv, by rw [show C = q by omega] at h; exact h, by omega⟩
  | d + 1, R, C, r, piv, h, e => by
    by_cases hz : ∀ i, r ≤ i → i < p → R i C = 0
    · obtain ⟨R', r', piv', k, hr⟩ := gj_all d (gj_skip h (by omega) hz) (by omega)
      exact ⟨R', r', piv', k, by omega⟩
    · obtain ⟨k, hk⟩ := Classical.not_forall.1 hz
      obtain ⟨hrk, hk⟩ := Classical.not_imp.1 hk
      obtain ⟨hkp, hk⟩ := Classical.not_imp.1 hk
      obtain ⟨R', r', piv', m, hr⟩ := gj_all d (gj_pivot h (by omega) k hrk hkp hk) (by omega)
      exact ⟨R', r', piv', m, by omega⟩
theorem rk_exists (p q : Nat) (A : M) : ∃ r, Rk p q A r := by
  obtain ⟨R, r, piv, h, _⟩ := gj_all q (gj_start p q A) (by omega)
  exact ⟨r, gj_end h⟩
/-- a column without a beginning: something is turned into nought -/
theorem gj_stuck {n : Nat} {A R : M} {C r : Nat} {piv : Nat → Nat} (h : GJ n n A R C r piv) (hC : C < n) (hz : ∀ i, r ≤ i → i < n → R i C = 0) : Sing n A := by
  obtain ⟨R', r', piv', k, hr⟩ := gj_all (n - (C + 1)) (gj_skip h hC hz) (by omega)
  exact (gj_end k).sing (by have := h.rc; omega)
theorem GJ.cut {p q q' : Nat} {A R : M} {C r : Nat} {piv : Nat → Nat} (h : GJ p q A R C r piv) (hq : q' ≤ q) (hC : C ≤ q') : GJ p q' A R C r piv :=
  ⟨h.eq.mono hq, h.rp, hC, h.rc, h.lt, h.inc, h.piv, h.zero⟩
theorem GJ.from {p q : Nat} {A B R : M} {C r : Nat} {piv : Nat → Nat} (h : GJ p q A R C r piv) (e : Eqm p q A B) : GJ p q B R C r piv :=
  ⟨h.eq.from e, h.rp, h.cq, h.rc, h.lt, h.inc, h.piv, h.zero⟩
theorem GJ.congr {p q : Nat} {A R T : M} {C r : Nat} {piv : Nat → Nat} (h : GJ p q A R C r piv) (e : Eqm p q R T) : GJ p q A T C r piv :=
  ⟨h.eq.congr e, h.rp, h.cq, h.rc, h.lt, h.inc, fun i k hi hk => by rw [← e i (piv k) hi (by have := h.lt k hk; have := h.cq; omega)]; exact h.piv i k hi hk,
    fun i j hi hp hj => by rw [← e i j hp (by have := h.cq; omega)]; exact h.zero i j hi hp hj⟩
/-- beside it the identity -/
def beside (n : Nat) (A : M) : M := fun i j => if j < n then A i j else one i (j - n)
/-- n rows begin in n columns: beside stands the inverse -/
theorem gj_inv {n : Nat} {A R : M} {piv : Nat → Nat} (h : GJ n (n + n) (beside n A) R n n piv) : Inv n A (fun i j => R i (n + j)) := by
  have ge : ∀ k, k < n → k ≤ piv k := by
    intro k
    induction k with
    | zero => intro _; exact Nat.zero_le _
    | succ k ih => intro hk; have := ih (by omega); have := h.inc k (k + 1) (by omega) hk; omega
  have le : ∀ d k, k + d + 1 = n → piv k ≤ k := by
    intro d
    induction d with
    | zero => intro k hk; have := h.lt k (by omega); omega
    | succ d ih => intro k hk; have := ih (k + 1) (by omega); have := h.inc k (k + 1) (by omega) (by omega); omega
  have eqp : ∀ k, k < n → piv k = k := fun k hk => Nat.le_antisymm (le (n - k - 1) k (by omega)) (ge k hk)
  obtain ⟨E, E', hi, he⟩ := h.eq
  have hl : Eqm n n (mm n E A) one := by
    intro i j hin hjn
    have h1 := he i j hin (by omega)
    have h2 := h.piv i j hin hjn
    rw [eqp j hjn] at h2
    rw [← h2, h1]
    exact sm_congr _ (fun k _ => by unfold beside; rw [if_pos hjn])
  have hr : Eqm n n (fun i j => R i (n + j)) E := by
    intro i j hin hjn
    show R i (n + j) = E i j
    rw [he i (n + j) hin (by omega)]
    have : mm n E (beside n A) i (n + j) = mm n E one i j := sm_congr _ (fun k _ => by unfold beside; rw [if_neg (by omega), show n + j - n = j by omega])
    rw [this]
    exact mm_one n E i j hjn
  -- E A = 1 and E has E' : so A is E'
  have ha : Eqm n n A E' := (left_right hi.2 hl).symm
  exact Inv.congr hi.symm ha.symm hr.symm
theorem beside_left (n : Nat) (A : M) : Eqm n n (beside n A) A := fun i j _ hj => by unfold beside; rw [if_pos hj]
/-- fewer rows begin than there are columns: there is none -/
theorem gj_none {n : Nat} {A R : M} {r : Nat} {piv : Nat → Nat} (h : GJ n (n + n) (beside n A) R n r piv) (hr : r < n) : Sing n A :=
  (gj_end ((h.cut (by omega) (Nat.le_refl _)).from (beside_left n A))).sing hr
end Mx
end Go.Proofs.YtilfjahbdlepjaaGreatDoor

/- Cauchy's matrices turn nothing into nought, but nought. -/
namespace Go.Proofs.YtilfjahbdlepjaaGreatDoor
namespace Mx
open El Pol
/-- the product of the first n -/
def pr : Nat → (Nat → El) → El
  | 0, _ => 1
  | n + 1, f => ti (pr n f) (f n)
theorem pr_congr (n : Nat) {f g : Nat → El} (h : ∀ i, i < n → f i = g i) : pr n f = pr n g := by
  induction n with
  | zero => rfl
  | succ n ih => rw [pr, pr, ih (fun i hi => h i (by omega)), h n (by omega)]
theorem pr_ne_zero (n : Nat) {f : Nat → El} (h : ∀ i, i < n → f i ≠ 0) : pr n f ≠ 0 := by
  induction n with
  | zero => show (1 : El) ≠ 0; decide
  | succ n ih => exact ti_ne_zero (ih (fun i hi => h i (by omega))) (h n (by omega))
theorem pr_zero (n : Nat) {f : Nat → El} (j : Nat) (hj : j < n) (h : f j = 0) : pr n f = 0 := by
  induction n with
  | zero => omega
  | succ n ih =>
    rw [pr]
    by_cases e : j = n
    · rw [← e, h, ti_zero]
    · rw [ih (by omega), zero_ti]
/-- all but the p-th, and the p-th -/
theorem pr_skip (f : Nat → El) (p : Nat) : ∀ m, p < m + 1 → pr (m + 1) f = ti (pr m (fun i => f (skip p i))) (f p)
  | 0, h => by rw [show p = 0 by omega]; rfl
  | m + 1, h => by
    by_cases e : p = m + 1
    · rw [pr, e]
      congr 1
      exact pr_congr _ (fun i hi => by unfold skip; rw [if_pos hi])
    · rw [pr, pr_skip f p m (by omega), pr, show skip p m = m + 1 from by unfold skip; rw [if_neg (by omega)], ti_assoc, ti_comm (f p), ← ti_assoc]
/-- 0 at so many elements -/
def rootsOf : Nat → (Nat → El) → List El
  | 0, _ => [1]
  | n + 1, f => Pol.mul (rootsOf n f) [f n, 1]
theorem ev_rootsOf (f : Nat → El) (x : El) : ∀ n, ev (rootsOf n f) x = pr n (fun i => pl (f i) x)
  | 0 => by show pl 1 (ti x 0) = 1; rw [ti_zero, pl_zero]
  | n + 1 => by rw [rootsOf, ev_mul, ev_rootsOf f x n, two_ev]; rfl
theorem rootsOf_beyond (f : Nat → El) : ∀ n i, n < i → co (rootsOf n f) i = 0
  | 0, i, h => co_beyond _ _ (by show 1 ≤ i; omega)
  | n + 1, i, h => by
    rw [rootsOf]
    exact co_mul_beyond _ _ n 1 (fun j hj => rootsOf_beyond f n j hj) (fun j hj => co_beyond _ _ (by show 2 ≤ j; omega)) i (by omega)
/-- sums of multiples -/
def sums : Nat → (Nat → El) → (Nat → List El) → List El
  | 0, _, _ => []
  | n + 1, v, q => Pol.add (sums n v q) (scale (v n) (q n))
theorem ev_sums (v : Nat → El) (q : Nat → List El) (x : El) : ∀ n, ev (sums n v q) x = sm n (fun k => ti (v k) (ev (q k) x))
  | 0 => rfl
  | n + 1 => by rw [sums, ev_add, ev_scale, ev_sums v q x n]; rfl
theorem sums_beyond (v : Nat → El) (q : Nat → List El) (m : Nat) (h : ∀ k i, m ≤ i → co (q k) i = 0) : ∀ n i, m ≤ i → co (sums n v q) i = 0
  | 0, i, _ => co_nil i
  | n + 1, i, hi => by rw [sums, co_add, co_scale, sums_beyond v q m h n i hi, h n i hi, ti_zero, pl_self]
def cauchy (x y : Nat → El) : M := fun i k => iv (pl (x i) (y k))
theorem cauchy_not {n : Nat} {x y : Nat → El} (hx : ∀ i j, i < j → j < n → x i ≠ x j) (hy : ∀ i j, i < j → j < n → y i ≠ y j) (hxy : ∀ i k, i < n → k < n → x i ≠ y k) : ¬ Sing n (cauchy x y) := by
  rintro ⟨v, ⟨j, hj, hvj⟩, hz⟩
  obtain ⟨m, rfl⟩ : ∃ m, n = m + 1 := ⟨n - 1, by omega⟩
  let q : Nat → List El := fun k => rootsOf m (fun i => y (skip k i))
  have hlen : ∀ k i, m + 1 ≤ i → co (q k) i = 0 := fun k i hi => rootsOf_beyond _ m i (by omega)
  have hroot : ∀ i, i < m + 1 → ev (sums (m + 1) v q) (x i) = 0 := by
    intro i hi
    have hne : ∀ k, k < m + 1 → pl (y k) (x i) ≠ 0 := fun k hk e => hxy i k hi hk (pl_eq_zero e).symm
    rw [ev_sums, sm_congr (m + 1) (g := fun k => ti (pr (m + 1) (fun l => pl (y l) (x i))) (ti (cauchy x y i k) (v k))) (fun k hk => by
      rw [ev_rootsOf, pr_skip _ k m hk]
      unfold cauchy
      rw [pl_comm (x i) (y k), ti_comm (iv _) (v k), ti_assoc, ti_left_comm (pl (y k) (x i)), ti_iv (hne k hk), ti_one, ti_comm]), sm_ti, hz i hi, ti_zero]
  have hall := zero_of_roots ((List.range (m + 1)).map x) (sums (m + 1) v q) (nodup_of x (m + 1) hx) (fun i hi => sums_beyond v q (m + 1) hlen (m + 1) i (by simpa using hi)) (fun z hz => by
    obtain ⟨i, hi, rfl⟩ := List.mem_map.1 hz
    exact hroot i (List.mem_range.1 hi))
  have hev := ev_zero _ hall (y j)
  rw [ev_sums, sm_one (m + 1) j hj (fun k hk hkj => by
    rw [ev_rootsOf]
    have : pr m (fun i => pl (y (skip k i)) (y j)) = 0 := pr_zero m (unskip k j) (back_lt hj hk (Ne.symm hkj)) (by show pl (y (skip k (unskip k j))) (y j) = 0; rw [skip_back (Ne.symm hkj), pl_self])
    rw [this, ti_zero]), ev_rootsOf] at hev
  rcases ti_eq_zero hev with e | e
  · exact hvj e
  · refine pr_ne_zero m (fun i hi => ?_) e
    intro e2
    have hs := skip_lt (p := j) hi
    have hne := skip_ne j i
    have e3 := pl_eq_zero e2
    rcases Nat.lt_or_ge (skip j i) j with h | h
    · exact hy _ _ h hj e3
    · exact hy _ _ (by omega) hs e3.symm
end Mx
end Go.Proofs.YtilfjahbdlepjaaGreatDoor

/- The rows of a code: any so many of them turn nothing into nought, but nought; so what they make of data gives the data back. -/
namespace Go.Proofs.YtilfjahbdlepjaaGreatDoor
namespace Mx
open El Pol
/-- a number as an element -/
def en (i : Nat) : El := Fin.ofNat 256 i
theorem en_val {i : Nat} (h : i < 256) : (en i).val = i := Nat.mod_eq_of_lt h
theorem en_inj {i j : Nat} (hi : i < 256) (hj : j < 256) (h : en i = en j) : i = j := by
  have := congrArg Fin.val h
  rwa [en_val hi, en_val hj] at this
/-- the row of each part: a block of data is itself alone -/
def gen (k : Nat) : M := fun i j => if i < k then one i j else iv (pl (en i) (en j))
/-- the rows of parity -/
def par (k : Nat) : M := cauchy (fun i => en (k + i)) en
theorem gen_par (k i j : Nat) : gen k (k + i) j = par k i j := by unfold gen par cauchy; rw [if_neg (by omega)]
theorem gen_not {k : Nat} {s : Nat → Nat} (hk : k ≤ 256) (hb : ∀ i, i < k → s i < 256) (hs : ∀ i j, i < j → j < k → s i ≠ s j) : ¬ Sing k (fun i j => gen k (s i) j) := by
  rintro ⟨v, ⟨j, hj, hvj⟩, hz⟩
  obtain ⟨m, rfl⟩ : ∃ m, k = m + 1 := ⟨k - 1, by omega⟩
  let q : Nat → List El := fun k => rootsOf m (fun i => en (skip k i))
  have hlen : ∀ k i, m + 1 ≤ i → co (q k) i = 0 := fun k i hi => rootsOf_beyond _ m i (by omega)
  have hat : ∀ l, l < m + 1 → ev (sums (m + 1) v q) (en l) = ti (v l) (pr m (fun i => pl (en (skip l i)) (en l))) := by
    intro l hl
    rw [ev_sums, sm_one (m + 1) l hl (fun k hk hkl => by
      rw [ev_rootsOf]
      have : pr m (fun i => pl (en (skip k i)) (en l)) = 0 := pr_zero m (unskip k l) (back_lt hl hk (Ne.symm hkl)) (by show pl (en (skip k (unskip k l))) (en l) = 0; rw [skip_back (Ne.symm hkl), pl_self])
      rw [this, ti_zero]), ev_rootsOf]
  have hroot : ∀ i, i < m + 1 → ev (sums (m + 1) v q) (en (s i)) = 0 := by
    intro i hi
    by_cases hsi : s i < m + 1
    · have h0 : v (s i) = 0 := by
        have := hz i hi
        rw [sm_congr (m + 1) (g := fun j => ti (one (s i) j) (v j)) (fun j _ => by (show ti (gen (m + 1) (s i) j) (v j) = _); unfold gen; rw [if_pos hsi])] at this
        rw [← this]
        exact (one_mm (m + 1) (fun j _ => v j) (s i) 0 hsi).symm
      rw [hat _ hsi, h0, zero_ti]
    · have hne : ∀ k, k < m + 1 → pl (en k) (en (s i)) ≠ 0 := fun k hk e => hsi (by
        have := en_inj (by omega) (hb i hi) (pl_eq_zero e)
        omega)
      rw [ev_sums, sm_congr (m + 1) (g := fun k => ti (pr (m + 1) (fun l => pl (en l) (en (s i)))) (ti (gen (m + 1) (s i) k) (v k))) (fun k hk => by
        rw [ev_rootsOf, pr_skip _ k m hk]
        unfold gen
        rw [if_neg hsi, pl_comm (en (s i)) (en k), ti_comm (iv _) (v k), ti_assoc, ti_left_comm (pl (en k) (en (s i))), ti_iv (hne k hk), ti_one, ti_comm]), sm_ti, hz i hi, ti_zero]
  have hall := zero_of_roots ((List.range (m + 1)).map (fun i => en (s i))) (sums (m + 1) v q) (nodup_of (fun i => en (s i)) (m + 1) (fun i j hij hjn e => hs i j hij hjn (en_inj (hb i (by omega)) (hb j hjn) e))) (fun i hi => sums_beyond v q (m + 1) hlen (m + 1) i (by simpa using hi)) (fun z hz => by
    obtain ⟨i, hi, rfl⟩ := List.mem_map.1 hz
    exact hroot i (List.mem_range.1 hi))
  have hev := ev_zero _ hall (en j)
  rw [hat j hj] at hev
  rcases ti_eq_zero hev with e | e
  · exact hvj e
  · refine pr_ne_zero m (fun i hi => ?_) e
    intro e2
    have hs := skip_lt (p := j) hi
    exact skip_ne j i (en_inj (by omega) (by omega) (pl_eq_zero e2))
/-- what was made by the rows comes back by their inverse -/
theorem mm_back {n q : Nat} {G T D : M} (h : Inv n G T) : Eqm n q (mm n T (mm n G D)) D := by
  rw [← mm_assoc]
  exact (mm_congr h.2 (Eqm.refl n q D)).trans (one_mm' n q D)
/-- one byte of data another one: the first of parity is another one there -/
theorem par_moves {k : Nat} {D E : M} {i j : Nat} (hi : i < k) (hne : E i j ≠ D i j) (hs : ∀ l, l < k → l ≠ i → E l j = D l j) (p : Nat) (hp : k + p < 256) : mm k (par k) E p j ≠ mm k (par k) D p j := by
  intro e
  have h0 : sm k (fun l => ti (par k p l) (pl (E l j) (D l j))) = 0 := by
    rw [sm_congr k (g := fun l => pl (ti (par k p l) (E l j)) (ti (par k p l) (D l j))) (fun l _ => ti_pl _ _ _), sm_pl]
    (show pl (mm k (par k) E p j) (mm k (par k) D p j) = 0)
    rw [e, pl_self]
  rw [sm_one k i hi (fun l hl hli => by rw [hs l hl hli, pl_self, ti_zero])] at h0
  rcases ti_eq_zero h0 with q | q
  · refine iv_ne_zero ?_ q
    intro e2
    have := en_inj (by omega) (by omega) (pl_eq_zero e2)
    omega
  · exact hne (pl_eq_zero q)
end Mx
end Go.Proofs.YtilfjahbdlepjaaGreatDoor

/- P and Q: any two of the parts are told by the others; a part that is another one is found. -/
namespace Go.Proofs.YtilfjahbdlepjaaGreatDoor
namespace Mx
open El Pol
/-- the powers of 2 -/
def g2 (i : Nat) : El := pw 2 i
theorem g2_ne {i j : Nat} (hi : i < 10) (hj : j < 10) (h : i ≠ j) : g2 i ≠ g2 j := by
  have : ∀ a : Fin 10, ∀ b : Fin 10, a ≠ b → g2 a.val ≠ g2 b.val := by decide +kernel
  exact this ⟨i, hi⟩ ⟨j, hj⟩ (fun e => h (congrArg Fin.val e))
theorem g2_nz {i : Nat} (hi : i < 10) : g2 i ≠ 0 := by
  have : ∀ a : Fin 10, g2 a.val ≠ 0 := by decide +kernel
  exact this ⟨i, hi⟩
theorem g2_succ (i : Nat) (hi : i < 10) : ti (g2 i) 2 = g2 (i + 1) := by
  have : ∀ a : Fin 10, ti (g2 a.val) 2 = g2 (a.val + 1) := by decide +kernel
  exact this ⟨i, hi⟩
theorem g2_zero : g2 0 = 1 := by decide +kernel
/-- P and Q of k blocks, byte by byte -/
def pp (k : Nat) (D : M) (l : Nat) : El := sm k (fun i => D i l)
def qq (k : Nat) (D : M) (l : Nat) : El := sm k (fun i => ti (g2 i) (D i l))
theorem pl_cancel {a b c : El} (h : pl a b = pl a c) : b = c := by
  have := congrArg (pl a) h
  rwa [← pl_assoc, ← pl_assoc, pl_self, zero_pl, zero_pl] at this
/-- two that have that sum, and that sum by a and b -/
theorem pair_is {a b x y s t : El} (hab : a ≠ b) (h1 : pl x y = s) (h2 : pl (ti a x) (ti b y) = t) : y = ti (pl (ti a s) t) (iv (pl a b)) ∧ x = pl s y := by
  have hne : pl a b ≠ 0 := fun e => hab (pl_eq_zero e)
  have hx : x = pl s y := by rw [← h1, pl_assoc, pl_self, pl_zero]
  refine ⟨?_, hx⟩
  have : pl (ti a s) t = ti (pl a b) y := by
    rw [← h2, hx, ti_pl, ← pl_assoc, ← pl_assoc, pl_self, zero_pl, pl_ti]
  rw [this, ti_comm (pl a b), ti_assoc, ti_iv hne, ti_one]
theorem pair_one {a b x y x' y' : El} (hab : a ≠ b) (h1 : pl x y = pl x' y') (h2 : pl (ti a x) (ti b y) = pl (ti a x') (ti b y')) : x = x' ∧ y = y' := by
  obtain ⟨q1, q2⟩ := pair_is hab h1 h2
  obtain ⟨r1, r2⟩ := pair_is hab rfl (rfl : pl (ti a x') (ti b y') = _)
  have : y = y' := q1.trans r1.symm
  exact ⟨q2.trans ((congrArg (pl (pl x' y')) this).trans r2.symm), this⟩
/-- a sum, one of which is another one -/
theorem sm_up (k i : Nat) (hi : i < k) (f : Nat → El) (x : El) : pl (sm k f) (f i) = pl (sm k (fun j => if j = i then x else f j)) x := by
  obtain ⟨m, rfl⟩ : ∃ m, k = m + 1 := ⟨k - 1, by omega⟩
  rw [sm_skip f i m hi, sm_skip (fun j => if j = i then x else f j) i m hi, if_pos rfl, pl_assoc, pl_self, pl_assoc, pl_self, pl_zero, pl_zero]
  exact sm_congr m (fun j _ => by rw [if_neg (skip_ne i j)])
/-- a sum, one of which is nought, is the sum without it -/
theorem sm_out (k i : Nat) (hi : i < k) (f : Nat → El) : sm k f = pl (sm k (fun j => if j = i then 0 else f j)) (f i) := by
  have := sm_up k i hi f 0
  rw [pl_zero] at this
  rw [← this, pl_assoc, pl_self, pl_zero]
/-- two of which are noughts -/
theorem sm_out2 (k i j : Nat) (hi : i < k) (hj : j < k) (hij : i ≠ j) (f : Nat → El) : sm k f = pl (sm k (fun l => if l = i ∨ l = j then 0 else f l)) (pl (f i) (f j)) := by
  rw [sm_out k i hi f, sm_out k j hj (fun l => if l = i then 0 else f l), if_neg (Ne.symm hij), pl_assoc, pl_comm (f j)]
  congr 1
  exact sm_congr k (fun l _ => by
    by_cases h1 : l = j
    · rw [if_pos h1, if_pos (.inr h1)]
    · rw [if_neg h1]
      by_cases h2 : l = i
      · rw [if_pos h2, if_pos (.inl h2)]
      · rw [if_neg h2, if_neg (by omega)])
/-- data that are the same but at one place, with one P: the same -/
theorem one_by_p {k i : Nat} (hi : i < k) {D E : M} {l : Nat} (hs : ∀ j, j < k → j ≠ i → D j l = E j l) (hp : pp k D l = pp k E l) : D i l = E i l := by
  unfold pp at hp
  rw [sm_out k i hi (fun j => D j l), sm_out k i hi (fun j => E j l), sm_congr k (g := fun j => if j = i then 0 else E j l) (fun j hj => by
    by_cases h : j = i
    · rw [if_pos h, if_pos h]
    · rw [if_neg h, if_neg h, hs j hj h])] at hp
  exact pl_cancel hp
/-- with one Q -/
theorem one_by_q {k i : Nat} (hi : i < k) (hk : k ≤ 10) {D E : M} {l : Nat} (hs : ∀ j, j < k → j ≠ i → D j l = E j l) (hq : qq k D l = qq k E l) : D i l = E i l := by
  unfold qq at hq
  rw [sm_out k i hi (fun j => ti (g2 j) (D j l)), sm_out k i hi (fun j => ti (g2 j) (E j l)), sm_congr k (g := fun j => if j = i then 0 else ti (g2 j) (E j l)) (fun j hj => by
    by_cases h : j = i
    · rw [if_pos h, if_pos h]
    · rw [if_neg h, if_neg h, hs j hj h])] at hq
  have h := congrArg (ti (iv (g2 i))) (pl_cancel hq)
  rwa [← ti_assoc, ← ti_assoc, iv_ti (g2_nz (by omega)), one_ti, one_ti] at h
/-- but at two places, with one P and one Q -/
theorem two_by_pq {k i j : Nat} (hi : i < k) (hj : j < k) (hij : i ≠ j) (hk : k ≤ 10) {D E : M} {l : Nat} (hs : ∀ h, h < k → h ≠ i → h ≠ j → D h l = E h l) (hp : pp k D l = pp k E l) (hq : qq k D l = qq k E l) : D i l = E i l ∧ D j l = E j l := by
  unfold pp at hp
  unfold qq at hq
  rw [sm_out2 k i j hi hj hij (fun h => D h l), sm_out2 k i j hi hj hij (fun h => E h l), sm_congr k (g := fun h => if h = i ∨ h = j then 0 else E h l) (fun h hh => by
    by_cases q : h = i ∨ h = j
    · rw [if_pos q, if_pos q]
    · rw [if_neg q, if_neg q, hs h hh (by omega) (by omega)])] at hp
  rw [sm_out2 k i j hi hj hij (fun h => ti (g2 h) (D h l)), sm_out2 k i j hi hj hij (fun h => ti (g2 h) (E h l)), sm_congr k (g := fun h => if h = i ∨ h = j then 0 else ti (g2 h) (E h l)) (fun h hh => by
    by_cases q : h = i ∨ h = j
    · rw [if_pos q, if_pos q]
    · rw [if_neg q, if_neg q, hs h hh (by omega) (by omega)])] at hq
  exact pair_one (g2_ne (by omega) (by omega) hij) (pl_cancel hp) (pl_cancel hq)
/-- one block another one: P and Q move by it -/
theorem pp_up {k i : Nat} (hi : i < k) (D : M) (f : Nat → El) (l : Nat) : pp k (fun j => if j = i then f else D j) l = pl (pl (pp k D l) (D i l)) (f l) := by
  have := sm_up k i hi (fun j => D j l) (f l)
  unfold pp
  rw [this, pl_assoc, pl_self, pl_zero]
  exact sm_congr k (fun j _ => by
    dsimp only
    by_cases h : j = i
    · rw [if_pos h, if_pos h]
    · rw [if_neg h, if_neg h])
theorem qq_up {k i : Nat} (hi : i < k) (D : M) (f : Nat → El) (l : Nat) : qq k (fun j => if j = i then f else D j) l = pl (pl (qq k D l) (ti (g2 i) (D i l))) (ti (g2 i) (f l)) := by
  have := sm_up k i hi (fun j => ti (g2 j) (D j l)) (ti (g2 i) (f l))
  unfold qq
  rw [this, pl_assoc, pl_self, pl_zero]
  exact sm_congr k (fun j _ => by
    dsimp only
    by_cases h : j = i
    · rw [if_pos h, if_pos h, h]
    · rw [if_neg h, if_neg h])
end Mx
end Go.Proofs.YtilfjahbdlepjaaGreatDoor

/- Where something is wrong in parts with P and Q: what may be another one, and that it is one alone. -/
namespace Go.Proofs.YtilfjahbdlepjaaGreatDoor
namespace Mx
open El Pol
/-- by how much P and Q are not those of the data -/
def sP (k : Nat) (D : M) (P : Nat → El) (l : Nat) : El := pl (pp k D l) (P l)
def sQ (k : Nat) (D : M) (Q : Nat → El) (l : Nat) : El := pl (qq k D l) (Q l)
/-- P and Q are those of the data -/
def Rgt (k L : Nat) (D : M) (P Q : Nat → El) : Prop := ∀ l, l < L → P l = pp k D l ∧ Q l = qq k D l
theorem rgt_iff {k L : Nat} {D : M} {P Q : Nat → El} : Rgt k L D P Q ↔ ∀ l, l < L → sP k D P l = 0 ∧ sQ k D Q l = 0 := by
  constructor
  · intro h l hl
    obtain ⟨h1, h2⟩ := h l hl
    unfold sP sQ
    rw [h1, h2, pl_self, pl_self]
    exact ⟨rfl, rfl⟩
  · intro h l hl
    obtain ⟨h1, h2⟩ := h l hl
    exact ⟨(pl_eq_zero h1).symm, (pl_eq_zero h2).symm⟩
/-- with another block at i they would be -/
def Fit (k L : Nat) (D : M) (P Q : Nat → El) (i : Nat) : Prop :=
  (i < k ∧ ∀ l, l < L → sQ k D Q l = ti (g2 i) (sP k D P l)) ∨ (i = k ∧ ∀ l, l < L → sQ k D Q l = 0) ∨ (i = k + 1 ∧ ∀ l, l < L → sP k D P l = 0)
theorem fit_data {k L i : Nat} (hi : i < k) {D : M} {P Q : Nat → El} : (∃ f : Nat → El, Rgt k L (fun j => if j = i then f else D j) P Q) ↔ ∀ l, l < L → sQ k D Q l = ti (g2 i) (sP k D P l) := by
  constructor
  · rintro ⟨f, h⟩ l hl
    obtain ⟨h1, h2⟩ := h l hl
    rw [pp_up hi] at h1
    rw [qq_up hi] at h2
    unfold sP sQ
    rw [h1, h2, ← pl_assoc, ← pl_assoc, pl_self, zero_pl, ← pl_assoc, ← pl_assoc, pl_self, zero_pl, ti_pl]
  · intro h
    refine ⟨fun l => pl (D i l) (sP k D P l), fun l hl => ?_⟩
    rw [pp_up hi, qq_up hi]
    have hq := h l hl
    constructor
    · unfold sP
      rw [pl_assoc (pp k D l), ← pl_assoc (D i l) (D i l), pl_self, zero_pl, ← pl_assoc, pl_self, zero_pl]
    · rw [ti_pl, ← hq, pl_assoc (qq k D l), ← pl_assoc (ti (g2 i) (D i l)), pl_self, zero_pl]
      unfold sQ
      rw [← pl_assoc, pl_self, zero_pl]
theorem fit_one {k L : Nat} (hk : k ≤ 10) {D : M} {P Q : Nat → El} {i j : Nat} (hn : ¬ Rgt k L D P Q) (h1 : Fit k L D P Q i) (h2 : Fit k L D P Q j) : i = j := by
  have hz : ∀ i, i < k → (∀ l, l < L → sQ k D Q l = ti (g2 i) (sP k D P l)) → (∀ l, l < L → sP k D P l = 0) → False := fun i _ q p => hn (rgt_iff.2 fun l hl => ⟨p l hl, by rw [q l hl, p l hl, ti_zero]⟩)
  have hq0 : ∀ i, i < k → (∀ l, l < L → sQ k D Q l = ti (g2 i) (sP k D P l)) → (∀ l, l < L → sQ k D Q l = 0) → False := fun i hi q p => hz i hi q fun l hl => by
    have := p l hl
    rw [q l hl] at this
    rcases ti_eq_zero this with e | e
    · exact absurd e (g2_nz (by omega))
    · exact e
  rcases h1 with ⟨hi, q1⟩ | ⟨rfl, q1⟩ | ⟨rfl, q1⟩
  · rcases h2 with ⟨hj, q2⟩ | ⟨rfl, q2⟩ | ⟨rfl, q2⟩
    · by_cases e : i = j
      · exact e
      · exfalso
        refine hz i hi q1 fun l hl => ?_
        have h := (q1 l hl).symm.trans (q2 l hl)
        have h3 : ti (pl (g2 i) (g2 j)) (sP k D P l) = 0 := by rw [pl_ti, h, pl_self]
        rcases ti_eq_zero h3 with q | q
        · exact absurd (pl_eq_zero q) (g2_ne (by omega) (by omega) e)
        · exact q
    · exact (hq0 i hi q1 q2).elim
    · exact (hz i hi q1 q2).elim
  · rcases h2 with ⟨hj, q2⟩ | ⟨rfl, _⟩ | ⟨rfl, q2⟩
    · exact (hq0 j hj q2 q1).elim
    · rfl
    · exact (hn (rgt_iff.2 fun l hl => ⟨q2 l hl, q1 l hl⟩)).elim
  · rcases h2 with ⟨hj, q2⟩ | ⟨rfl, q2⟩ | ⟨rfl, _⟩
    · exact (hz j hj q2 q1).elim
    · exact (hn (rgt_iff.2 fun l hl => ⟨q1 l hl, q2 l hl⟩)).elim
    · rfl
/-- parts that are right, one of which is another one: it fits there -/
theorem fit_moved {k L i : Nat} (hi : i < k) {D : M} {P Q : Nat → El} (h : Rgt k L D P Q) (f : Nat → El) : Fit k L (fun j => if j = i then f else D j) P Q i := by
  refine .inl ⟨hi, ?_⟩
  refine (fit_data hi).1 ⟨D i, ?_⟩
  have e : (fun j => if j = i then D i else (fun j => if j = i then f else D j) j) = D := by
    funext j
    by_cases q : j = i
    · rw [if_pos q, q]
    · rw [if_neg q]; dsimp only; rw [if_neg q]
  rw [e]
  exact h
end Mx
end Go.Proofs.YtilfjahbdlepjaaGreatDoor

/- What healed data are, by equations, and that these tell them. -/
namespace Go.Proofs.YtilfjahbdlepjaaGreatDoor
namespace Mx
open El Pol
/-- the blocks of data that are lost -/
def gn (lost : Nat → Bool) (k : Nat) : List Nat := (List.range k).filter (fun i => lost i)
theorem mem_gn {lost : Nat → Bool} {k i : Nat} : i ∈ gn lost k ↔ i < k ∧ lost i = true := by
  unfold gn
  rw [List.mem_filter, List.mem_range]
theorem gn_nodup (lost : Nat → Bool) (k : Nat) : (gn lost k).Pairwise (· < ·) := List.Pairwise.filter _ List.pairwise_lt_range
/-- D are the data of the parts A, of which some are lost, healed: those that are there; one by P, if that is there, else by Q; two by both -/
structure Healed (k L : Nat) (A : M) (lost : Nat → Bool) (D : M) : Prop where
  there : ∀ i, i < k → lost i = false → ∀ l, l < L → D i l = A i l
  byP : (gn lost k).length = 1 → lost k = false → ∀ l, l < L → pp k D l = A k l
  byQ : (gn lost k).length = 1 → lost k = true → ∀ l, l < L → qq k D l = A (k + 1) l
  both : (gn lost k).length = 2 → ∀ l, l < L → pp k D l = A k l ∧ qq k D l = A (k + 1) l
theorem Healed.same {k L : Nat} {A : M} {lost : Nat → Bool} {D E : M} (hk : k ≤ 10) (h2 : (gn lost k).length ≤ 2) (h : Healed k L A lost D) (g : Healed k L A lost E) : Eqm k L D E := by
  intro i l hi hl
  cases hi0 : lost i with
  | false => rw [h.there i hi hi0 l hl, g.there i hi hi0 l hl]
  | true =>
    have hm := mem_gn.2 ⟨hi, hi0⟩
    have hoth : ∀ j, j < k → j ∉ gn lost k → D j l = E j l := fun j hj hn => by
      have : lost j = false := by
        cases q : lost j with
        | false => rfl
        | true => exact absurd (mem_gn.2 ⟨hj, q⟩) hn
      rw [h.there j hj this l hl, g.there j hj this l hl]
    match hg : gn lost k with
    | [] => rw [hg] at hm; cases hm
    | [x] =>
      rw [hg] at hm
      obtain rfl : i = x := by simpa using hm
      have hl1 : (gn lost k).length = 1 := by rw [hg]; rfl
      have hs : ∀ j, j < k → j ≠ i → D j l = E j l := fun j hj hne => hoth j hj (by rw [hg]; simpa using hne)
      cases hp : lost k with
      | false => exact one_by_p hi hs ((h.byP hl1 hp l hl).trans (g.byP hl1 hp l hl).symm)
      | true => exact one_by_q hi hk hs ((h.byQ hl1 hp l hl).trans (g.byQ hl1 hp l hl).symm)
    | [x, y] =>
      have hl2 : (gn lost k).length = 2 := by rw [hg]; rfl
      have hxy : x < y := by
        have := gn_nodup lost k
        rw [hg] at this
        simpa using this
      have hx := (mem_gn.1 (show x ∈ gn lost k by rw [hg]; simp)).1
      have hy := (mem_gn.1 (show y ∈ gn lost k by rw [hg]; simp)).1
      have hb := two_by_pq (D := D) (E := E) (l := l) hx hy (by omega) hk (fun j hj h1 h2 => hoth j hj (by rw [hg]; simp [h1, h2])) ((h.both hl2 l hl).1.trans (g.both hl2 l hl).1.symm) ((h.both hl2 l hl).2.trans (g.both hl2 l hl).2.symm)
      rw [hg] at hm
      rcases List.mem_cons.1 hm with rfl | hm
      · exact hb.1
      · obtain rfl : i = y := by simpa using hm
        exact hb.2
    | x :: y :: z :: t => rw [hg] at h2; simp at h2
/-- parts that were right: what is healed is what it was -/
theorem Healed.back {k L : Nat} {A : M} {lost : Nat → Bool} {D0 : M} (h : ∀ i, i < k → lost i = false → ∀ l, l < L → D0 i l = A i l) (hp : lost k = false → ∀ l, l < L → A k l = pp k D0 l) (hq : lost (k + 1) = false → ∀ l, l < L → A (k + 1) l = qq k D0 l)
    (h1 : (gn lost k).length = 1 → lost k = true → lost (k + 1) = false) (h2 : (gn lost k).length = 2 → lost k = false ∧ lost (k + 1) = false) : Healed k L A lost D0 :=
  ⟨h, fun _ q l hl => (hp q l hl).symm, fun q1 q2 l hl => (hq (h1 q1 q2) l hl).symm, fun q l hl => ⟨(hp (h2 q).1 l hl).symm, (hq (h2 q).2 l hl).symm⟩⟩
end Mx
end Go.Proofs.YtilfjahbdlepjaaGreatDoor

/- Which are left: the numbers that are not lost, in their order, and where each stands among them. -/
namespace Go.Proofs.YtilfjahbdlepjaaGreatDoor
open El Pol Mx
/-- the numbers below n that are not lost -/
def ix (lost : Nat → Bool) : Nat → List Nat
  | 0 => []
  | n + 1 => if lost n then ix lost n else ix lost n ++ [n]
theorem ix_le (lost : Nat → Bool) : ∀ n, (ix lost n).length ≤ n
  | 0 => Nat.le_refl _
  | n + 1 => by
    have := ix_le lost n
    rw [ix]
    split
    · omega
    · rw [List.length_append]; simp; omega
theorem ix_eq (lost : Nat → Bool) : ∀ n, ix lost n = (List.range n).filter (fun i => !lost i)
  | 0 => rfl
  | n + 1 => by
    rw [ix, List.range_succ, List.filter_append, ← ix_eq lost n]
    cases h : lost n <;> simp [h]
/-- where the i-th of those that are left stands -/
abbrev at' (lost : Nat → Bool) (n i : Nat) : Nat := (ix lost n).getD i 0
theorem at_mem {lost : Nat → Bool} {n i : Nat} (h : i < (ix lost n).length) : at' lost n i < n ∧ lost (at' lost n i) = false := by
  have hm : at' lost n i ∈ ix lost n := by
    show (ix lost n).getD i 0 ∈ _
    rw [List.getD_eq_getElem?_getD, List.getElem?_eq_getElem h]
    exact List.getElem_mem h
  rw [ix_eq, List.mem_filter] at hm
  exact ⟨List.mem_range.1 hm.1, by simpa using hm.2⟩
theorem at_ne {lost : Nat → Bool} {n i j : Nat} (hij : i < j) (h : j < (ix lost n).length) : at' lost n i ≠ at' lost n j := by
  have hp : (ix lost n).Pairwise (· ≠ ·) := by
    rw [ix_eq]
    exact List.Pairwise.filter _ List.nodup_range
  have := List.pairwise_iff_getElem.1 hp i j (by omega) h hij
  show (ix lost n).getD i 0 ≠ (ix lost n).getD j 0
  rw [List.getD_eq_getElem?_getD, List.getD_eq_getElem?_getD, List.getElem?_eq_getElem h, List.getElem?_eq_getElem (show i < (ix lost n).length by omega)]
  exact this
theorem at_map {α : Type} (f : Nat → α) {lost : Nat → Bool} {n i : Nat} (h : i < (ix lost n).length) : ((ix lost n).map f)[i]? = some (f (at' lost n i)) := by
  show _ = some (f ((ix lost n).getD i 0))
  rw [List.getElem?_map, List.getD_eq_getElem?_getD, List.getElem?_eq_getElem h]
  rfl
theorem left_not {lost : Nat → Bool} {n k : Nat} (hn : n ≤ 12) (hk : k ≤ (ix lost n).length) : ¬ Sing k (fun i j => gen k (at' lost n i) j) := by
  have hl := ix_le lost n
  exact gen_not (s := at' lost n) (by omega) (fun i hi => by have := (at_mem (lost := lost) (n := n) (i := i) (by omega)).1; omega) (fun i j hij hj => at_ne hij (by omega))
theorem ix_len_succ (lost : Nat → Bool) (n : Nat) : (ix lost (n + 1)).length = (ix lost n).length + (if lost n then 0 else 1) := by
  rw [ix]
  split
  · rfl
  · rw [List.length_append]; rfl
/-- a number that is not lost stands behind those ahead of it -/
theorem at_pos {lost : Nat → Bool} {j : Nat} (hj : lost j = false) : ∀ n, j < n → (ix lost j).length < (ix lost n).length ∧ at' lost n (ix lost j).length = j
  | 0, h => by omega
  | n + 1, h => by
    by_cases e : j = n
    · subst e
      rw [ix_len_succ, hj]
      refine ⟨by simp, ?_⟩
      show (ix lost (j + 1)).getD _ 0 = j
      rw [ix, hj, if_neg (by simp), List.getD_eq_getElem?_getD, List.getElem?_append_right (Nat.le_refl _), Nat.sub_self]
      rfl
    · obtain ⟨h1, h2⟩ := at_pos hj n (by omega)
      rw [ix_len_succ]
      refine ⟨by omega, ?_⟩
      have e2 : (ix lost (n + 1)).getD (ix lost j).length 0 = (ix lost n).getD (ix lost j).length 0 := by
        rw [ix]
        split
        · rfl
        · rw [List.getD_eq_getElem?_getD, List.getElem?_append_left h1, List.getD_eq_getElem?_getD]
      exact e2.trans h2
end Go.Proofs.YtilfjahbdlepjaaGreatDoor

/- The rows of P and Q: what the first parts that are left tell of data is what healed data are; no data but noughts are told as noughts. -/
namespace Go.Proofs.YtilfjahbdlepjaaGreatDoor
namespace Mx
open El Pol
/-- a row a part: a block of data is itself alone -/
def gp (k : Nat) (P : M) : M := fun i j => if i < k then one i j else P (i - k) j
theorem gp_gen (k i j : Nat) : gp k (par k) i j = gen k i j := by
  unfold gp gen
  by_cases h : i < k
  · rw [if_pos h, if_pos h]
  · rw [if_neg h, if_neg h]
    unfold par cauchy
    dsimp only
    rw [show k + (i - k) = i by omega]
theorem gp_data {k : Nat} {P D : M} {i j : Nat} (hi : i < k) : mm k (gp k P) D i j = D i j := by
  rw [← one_mm k D i j hi]
  exact sm_congr k (fun l _ => by unfold gp; rw [if_pos hi])
/-- the rows of P and Q -/
def pqr : M := fun i j => if i = 0 then 1 else g2 j
theorem mm_pqr0 (k : Nat) (D : M) (l : Nat) : mm k pqr D 0 l = pp k D l := sm_congr k (fun j _ => by unfold pqr; rw [if_pos rfl, one_ti])
theorem mm_pqr1 (k : Nat) (D : M) (l : Nat) : mm k pqr D 1 l = qq k D l := sm_congr k (fun j _ => by unfold pqr; rw [if_neg (by omega)])
theorem gp_p {k : Nat} {D : M} {l : Nat} : mm k (gp k pqr) D k l = pp k D l := by
  rw [← mm_pqr0]
  exact sm_congr k (fun j _ => by unfold gp; rw [if_neg (by omega), Nat.sub_self])
theorem gp_q {k : Nat} {D : M} {l : Nat} : mm k (gp k pqr) D (k + 1) l = qq k D l := by
  rw [← mm_pqr1]
  exact sm_congr k (fun j _ => by unfold gp; rw [if_neg (by omega), show k + 1 - k = 1 by omega])
theorem ix_gn (lost : Nat → Bool) : ∀ k, (ix lost k).length + (gn lost k).length = k
  | 0 => rfl
  | k + 1 => by
    have := ix_gn lost k
    rw [ix_len_succ]
    unfold gn at *
    rw [List.range_succ, List.filter_append, List.length_append]
    cases h : lost k <;> simp [h] <;> omega
theorem gn_le {lost : Nat → Bool} {k : Nat} (h : k ≤ (ix lost (k + 2)).length) : (gn lost k).length ≤ 2 := by
  have h1 := ix_gn lost k
  have h2 := ix_len_succ lost k
  have h3 : (ix lost (k + 2)).length = _ := ix_len_succ lost (k + 1)
  split at h2 <;> split at h3 <;> omega
/-- what the first that are left tell -/
theorem healed_of {k L : Nat} {A D : M} {lost : Nat → Bool} (hk : k ≤ (ix lost (k + 2)).length) (h : ∀ i l, i < k → l < L → mm k (gp k pqr) D (at' lost (k + 2) i) l = A (at' lost (k + 2) i) l) : Healed k L A lost D := by
  have h1 := ix_gn lost k
  have h2 := ix_len_succ lost k
  have h3 : (ix lost (k + 2)).length = _ := ix_len_succ lost (k + 1)
  have at_ : ∀ j l, l < L → lost j = false → j < k + 2 → (ix lost j).length < k → mm k (gp k pqr) D j l = A j l := fun j l hl hj hj2 hp => by
    have := h _ l hp hl
    rwa [(at_pos hj (k + 2) hj2).2] at this
  refine ⟨fun i hi hl l hlL => ?_, fun hg hp l hl => ?_, fun hg hp l hl => ?_, fun hg l hl => ?_⟩
  · rw [← at_ i l hlL hl (by omega) (by have := ix_le lost i; omega), gp_data hi]
  · rw [← at_ k l hl hp (by omega) (by omega), gp_p]
  · rw [hp, if_pos rfl] at h2
    have hq : lost (k + 1) = false := by
      cases e : lost (k + 1) with
      | false => rfl
      | true => rw [e, if_pos rfl] at h3; omega
    rw [← at_ (k + 1) l hl hq (by omega) (by omega), gp_q]
  · have hp : lost k = false := by
      cases e : lost k with
      | false => rfl
      | true => rw [e, if_pos rfl] at h2; split at h3 <;> omega
    have hq : lost (k + 1) = false := by
      cases e : lost (k + 1) with
      | false => rfl
      | true => rw [e, if_pos rfl] at h3; split at h2 <;> omega
    rw [hp, if_neg (by simp)] at h2
    exact ⟨by rw [← at_ k l hl hp (by omega) (by omega), gp_p], by rw [← at_ (k + 1) l hl hq (by omega) (by omega), gp_q]⟩
theorem sm_nought (k : Nat) : sm k (fun _ => (0 : El)) = 0 := by
  induction k with
  | zero => rfl
  | succ k ih => rw [sm, ih, pl_zero]
theorem pq_not {lost : Nat → Bool} {k : Nat} (h10 : k ≤ 10) (hk : k ≤ (ix lost (k + 2)).length) : ¬ Sing k (fun i j => gp k pqr (at' lost (k + 2) i) j) := by
  rintro ⟨v, ⟨j, hj, hv⟩, hz⟩
  have a1 : Healed k 1 (fun _ _ => 0) lost (fun i _ => v i) := healed_of hk (fun i l hi _ => hz i hi)
  have a2 : Healed k 1 (fun _ _ => 0) lost (fun _ _ => 0) := healed_of hk (fun i l hi _ => by
    show sm k (fun _ => ti _ 0) = 0
    rw [sm_congr k (g := fun _ => 0) (fun _ _ => ti_zero _), sm_nought])
  exact hv (a1.same h10 (gn_le hk) a2 j 0 hj (by omega))
/-- the data that the inverse makes of those that are left -/
theorem healed_inv {k L : Nat} {A T lf : M} {lost : Nat → Bool} (hk : k ≤ (ix lost (k + 2)).length) (hT : Inv k (fun i j => gp k pqr (at' lost (k + 2) i) j) T) (hl : ∀ i l, i < k → l < L → lf i l = A (at' lost (k + 2) i) l) : Healed k L A lost (mm k T lf) :=
  healed_of hk (fun i l hi hl' => by
    rw [← hl i l hi hl']
    have e : mm k (gp k pqr) (mm k T lf) (at' lost (k + 2) i) l = mm k (fun i j => gp k pqr (at' lost (k + 2) i) j) (mm k T lf) i l := rfl
    rw [e, ← mm_assoc, mm_congr hT.1 (Eqm.refl k L lf) i l hi hl', one_mm k lf i l hi])
/-- all parts of data -/
def pqp (k : Nat) (D : M) : M := fun i => if i < k then D i else if i = k then pp k D else qq k D
theorem pp_congr {k L : Nat} {D E : M} (h : Eqm k L D E) {l : Nat} (hl : l < L) : pp k D l = pp k E l := sm_congr k (fun i hi => h i l hi hl)
theorem qq_congr {k L : Nat} {D E : M} (h : Eqm k L D E) {l : Nat} (hl : l < L) : qq k D l = qq k E l := sm_congr k (fun i hi => by rw [h i l hi hl])
theorem pqp_congr {k L : Nat} {D E : M} (h : Eqm k L D E) (i l : Nat) (hl : l < L) : pqp k D i l = pqp k E i l := by
  unfold pqp
  by_cases h1 : i < k
  · rw [if_pos h1, if_pos h1]; exact h i l h1 hl
  · rw [if_neg h1, if_neg h1]
    by_cases h2 : i = k
    · rw [if_pos h2, if_pos h2]; exact pp_congr h hl
    · rw [if_neg h2, if_neg h2]; exact qq_congr h hl
end Mx
end Go.Proofs.YtilfjahbdlepjaaGreatDoor

/- Where blocks, P and Q stand: plain numbers. -/
namespace Go.Proofs.YtilfjahbdlepjaaGreatDoor.Lay
/-- the disk of P -/
def dP (n r : Nat) : Nat := n - 1 - r % n
/-- the i-th of a row: data first, then P, then Q -/
def ord (n r i : Nat) : Nat := (dP n r + 2 + i) % n
/-- which of a row a disk is -/
def pos (n r d : Nat) : Nat := (d + 2 * n - dP n r - 2) % n
/-- what a disk has: data from 0 on, -1, -2 -/
def rol (n : Nat) (i : Nat) : Int := if i = n - 2 then -1 else if i = n - 1 then -2 else i
theorem eight {n : Nat} (h1 : 3 ≤ n) (h2 : n ≤ 10) : n = 3 ∨ n = 4 ∨ n = 5 ∨ n = 6 ∨ n = 7 ∨ n = 8 ∨ n = 9 ∨ n = 10 := by omega
theorem dP_lt {n r : Nat} (h1 : 3 ≤ n) : dP n r < n := by unfold dP; omega
theorem ord_lt {n r i : Nat} (h1 : 3 ≤ n) : ord n r i < n := Nat.mod_lt _ (by omega)
theorem pos_lt {n r d : Nat} (h1 : 3 ≤ n) : pos n r d < n := Nat.mod_lt _ (by omega)
theorem pos_ord {n r i : Nat} (h1 : 3 ≤ n) (h2 : n ≤ 10) (hi : i < n) : pos n r (ord n r i) = i := by
  have hp := dP_lt (r := r) h1
  unfold pos ord
  generalize dP n r = p at *
  rcases eight h1 h2 with rfl | rfl | rfl | rfl | rfl | rfl | rfl | rfl <;> omega
theorem ord_pos {n r d : Nat} (h1 : 3 ≤ n) (h2 : n ≤ 10) (hd : d < n) : ord n r (pos n r d) = d := by
  have hp := dP_lt (r := r) h1
  unfold pos ord
  generalize dP n r = p at *
  rcases eight h1 h2 with rfl | rfl | rfl | rfl | rfl | rfl | rfl | rfl <;> omega
theorem ord_inj {n r i j : Nat} (h1 : 3 ≤ n) (h2 : n ≤ 10) (hi : i < n) (hj : j < n) (h : ord n r i = ord n r j) : i = j := by
  rw [← pos_ord h1 h2 hi (r := r), h, pos_ord h1 h2 hj]
theorem ord_data {n r i : Nat} : (dP n r + (i + 2)) % n = ord n r i := by unfold ord; rw [Nat.add_assoc, Nat.add_comm i 2]
theorem ord_P {n r : Nat} (h1 : 3 ≤ n) (h2 : n ≤ 10) : ord n r (n - 2) = dP n r := by
  have hp := dP_lt (r := r) h1
  unfold ord
  generalize dP n r = p at *
  rcases eight h1 h2 with rfl | rfl | rfl | rfl | rfl | rfl | rfl | rfl <;> omega
theorem ord_Q {n r : Nat} (h1 : 3 ≤ n) (h2 : n ≤ 10) : ord n r (n - 1) = (dP n r + 1) % n := by
  have hp := dP_lt (r := r) h1
  unfold ord
  generalize dP n r = p at *
  rcases eight h1 h2 with rfl | rfl | rfl | rfl | rfl | rfl | rfl | rfl <;> omega
/-- how far behind P: 0 is P, 1 is Q, then data -/
theorem behind {n r d : Nat} (h1 : 3 ≤ n) (h2 : n ≤ 10) (hd : d < n) :
    (d + n - dP n r) % n = (if pos n r d = n - 2 then 0 else if pos n r d = n - 1 then 1 else pos n r d + 2) := by
  have hp := dP_lt (r := r) h1
  unfold pos
  generalize dP n r = p at *
  rcases eight h1 h2 with rfl | rfl | rfl | rfl | rfl | rfl | rfl | rfl
  all_goals
    split
    · omega
    · split <;> omega
/-- P stands on each disk once -/
theorem dP_inj {n r s : Nat} (hr : r < n) (hs : s < n) (h : dP n r = dP n s) : r = s := by
  unfold dP at h
  rw [Nat.mod_eq_of_lt hr, Nat.mod_eq_of_lt hs] at h
  omega
end Go.Proofs.YtilfjahbdlepjaaGreatDoor.Lay

/- Where something is wrong: that healing one part and holding the rest against what stands there finds just the parts that fit; what Locate answers, and that it is one answer. -/
namespace Go.Proofs.YtilfjahbdlepjaaGreatDoor
namespace Mx
open El Pol
theorem gn_one {k i : Nat} (hi : i < k) : gn (fun j => decide (j = i)) k = [i] := by
  unfold gn
  induction k with
  | zero => omega
  | succ k ih =>
    rw [List.range_succ, List.filter_append]
    by_cases e : i = k
    · subst e
      have : List.filter (fun j => decide (j = i)) (List.range i) = [] := by
        rw [List.filter_eq_nil_iff]
        intro j hj
        have := List.mem_range.1 hj
        simp; omega
      rw [this]
      simp
    · rw [ih (by omega)]
      simp [show k ≠ i by omega]
theorem gn_none {k i : Nat} (hi : k ≤ i) : gn (fun j => decide (j = i)) k = [] := by
  unfold gn
  rw [List.filter_eq_nil_iff]
  intro j hj
  have := List.mem_range.1 hj
  simp; omega
/-- healed without one part, all others are as they stand just where it fits -/
theorem fit_heal {k L i : Nat} (hk : k ≤ 10) (hi : i < k + 2) {A D : M} (h : Healed k L A (fun j => decide (j = i)) D) :
    (∀ j, j < k + 2 → j ≠ i → ∀ l, l < L → pqp k D j l = A j l) ↔ Fit k L A (A k) (A (k + 1)) i := by
  by_cases h1 : i < k
  · have hg : (gn (fun j => decide (j = i)) k).length = 1 := by rw [gn_one h1]; rfl
    have hD : ∀ j, j < k → j ≠ i → ∀ l, l < L → D j l = A j l := fun j hj hne l hl => h.there j hj (by simpa using hne) l hl
    have hP := h.byP hg (by simp; omega)
    constructor
    · intro hs
      refine .inl ⟨h1, (fit_data h1).1 ⟨D i, fun l hl => ?_⟩⟩
      have e : Eqm k L D (fun j => if j = i then D i else A j) := fun j l hj hl => by
        dsimp only
        by_cases q : j = i
        · rw [if_pos q, q]
        · rw [if_neg q]; exact hD j hj q l hl
      rw [← pp_congr e hl, ← qq_congr e hl]
      refine ⟨(hP l hl).symm, ?_⟩
      have := hs (k + 1) (by omega) (by omega) l hl
      unfold pqp at this
      rw [if_neg (by omega), if_neg (by omega)] at this
      exact this.symm
    · intro hf
      have hf' : ∀ l, l < L → sQ k A (A (k + 1)) l = ti (g2 i) (sP k A (A k) l) := by
        rcases hf with ⟨_, q⟩ | ⟨q, _⟩ | ⟨q, _⟩
        · exact q
        · omega
        · omega
      obtain ⟨f, hR⟩ := (fit_data h1).2 hf'
      have hE : Healed k L A (fun j => decide (j = i)) (fun j => if j = i then f else A j) :=
        ⟨fun j hj hl l hlL => by
            have : j ≠ i := by simpa using hl
            rw [if_neg this],
          fun _ _ l hl => ((hR l hl).1).symm, fun _ q => by simp at q; omega, fun q => by rw [hg] at q; omega⟩
      have e := h.same hk (by omega) hE
      intro j hj hne l hl
      rw [pqp_congr e j l hl]
      unfold pqp
      by_cases q : j < k
      · rw [if_pos q]; dsimp only; rw [if_neg hne]
      · rw [if_neg q]
        by_cases q2 : j = k
        · rw [if_pos q2, q2]; exact ((hR l hl).1).symm
        · rw [if_neg q2, show j = k + 1 by omega]; exact ((hR l hl).2).symm
  · have hD : Eqm k L D A := fun j l hj hl => h.there j hj (by simp; omega) l hl
    by_cases h2 : i = k
    · constructor
      · intro hs
        refine .inr (.inl ⟨h2, fun l hl => ?_⟩)
        have := hs (k + 1) (by omega) (by omega) l hl
        rw [pqp_congr hD _ l hl] at this
        unfold pqp at this
        rw [if_neg (by omega), if_neg (by omega)] at this
        unfold sQ
        rw [this, pl_self]
      · intro hf j hj hne l hl
        rw [pqp_congr hD j l hl]
        unfold pqp
        by_cases q : j < k
        · rw [if_pos q]
        · rw [if_neg q, if_neg (by omega), show j = k + 1 by omega]
          rcases hf with ⟨q1, _⟩ | ⟨_, q1⟩ | ⟨q1, _⟩
          · omega
          · exact pl_eq_zero (q1 l hl)
          · omega
    · constructor
      · intro hs
        refine .inr (.inr ⟨by omega, fun l hl => ?_⟩)
        have := hs k (by omega) (by omega) l hl
        rw [pqp_congr hD _ l hl] at this
        unfold pqp at this
        rw [if_neg (by omega), if_pos rfl] at this
        unfold sP
        rw [this, pl_self]
      · intro hf j hj hne l hl
        rw [pqp_congr hD j l hl]
        unfold pqp
        by_cases q : j < k
        · rw [if_pos q]
        · rw [if_neg q, if_pos (by omega), show j = k by omega]
          rcases hf with ⟨q1, _⟩ | ⟨q1, _⟩ | ⟨_, q1⟩
          · omega
          · omega
          · exact pl_eq_zero (q1 l hl)
/-- what Locate answers of the parts A: where, and the fault -/
def Lct (k L : Nat) (A : M) (z : Int) (f : Nat) : Prop :=
  (Rgt k L A (A k) (A (k + 1)) ∧ z = -1 ∧ f = 0) ∨
  (¬ Rgt k L A (A k) (A (k + 1)) ∧ (∃ i : Nat, i < k + 2 ∧ Fit k L A (A k) (A (k + 1)) i ∧ z = i) ∧ f = 0) ∨
  (¬ Rgt k L A (A k) (A (k + 1)) ∧ (∀ i, i < k + 2 → ¬ Fit k L A (A k) (A (k + 1)) i) ∧ z = 0 ∧ f = 8)
theorem Lct.same {k L : Nat} (hk : k ≤ 10) {A : M} {z z' : Int} {f f' : Nat} (h : Lct k L A z f) (g : Lct k L A z' f') : z = z' ∧ f = f' := by
  rcases h with ⟨h1, h2, h3⟩ | ⟨h1, ⟨i, hi, h2, h3⟩, h4⟩ | ⟨h1, h2, h3, h4⟩
  · rcases g with ⟨g1, g2, g3⟩ | ⟨g1, _⟩ | ⟨g1, _⟩
    · exact ⟨by omega, by omega⟩
    · exact absurd h1 g1
    · exact absurd h1 g1
  · rcases g with ⟨g1, _⟩ | ⟨_, ⟨j, hj, g2, g3⟩, g4⟩ | ⟨_, g2, _⟩
    · exact absurd g1 h1
    · have := fit_one hk h1 h2 g2
      exact ⟨by omega, by omega⟩
    · exact absurd h2 (g2 i hi)
  · rcases g with ⟨g1, _⟩ | ⟨_, ⟨j, hj, g2, g3⟩, g4⟩ | ⟨_, _, g3, g4⟩
    · exact absurd g1 h1
    · exact absurd g2 (h2 j hj)
    · exact ⟨by omega, by omega⟩
/-- is there such an answer? there is -/
theorem loc_is (k L : Nat) (A : M) : ∃ z f, Lct k L A z f := by
  by_cases h : Rgt k L A (A k) (A (k + 1))
  · exact ⟨_, _, .inl ⟨h, rfl, rfl⟩⟩
  · by_cases g : ∃ i, i < k + 2 ∧ Fit k L A (A k) (A (k + 1)) i
    · obtain ⟨i, hi, hf⟩ := g
      exact ⟨i, 0, .inr (.inl ⟨h, ⟨i, hi, hf, rfl⟩, rfl⟩)⟩
    · exact ⟨0, 8, .inr (.inr ⟨h, fun i hi hf => g ⟨i, hi, hf⟩, rfl, rfl⟩)⟩
end Mx
end Go.Proofs.YtilfjahbdlepjaaGreatDoor

/- One part that is lost: which are left. -/
namespace Go.Proofs.YtilfjahbdlepjaaGreatDoor
open El Pol Mx
/-- one that is lost -/
def lost1 (i : Nat) : Nat → Bool := fun j => decide (j = i)
theorem ix_lost1 (i d : Nat) : d ≤ (ix (lost1 i) (d + 2)).length := by
  have h := ix_gn (lost1 i) (d + 2)
  have h2 : (gn (lost1 i) (d + 2)).length ≤ 1 := by
    by_cases q : i < d + 2
    · rw [show gn (lost1 i) (d + 2) = [i] from Mx.gn_one q]; simp
    · rw [show gn (lost1 i) (d + 2) = [] from Mx.gn_none (by omega)]; simp
  omega
end Go.Proofs.YtilfjahbdlepjaaGreatDoor

/- The rows by which parts are held against P and Q: what they make of the parts, and what Delta asks. -/
namespace Go.Proofs.YtilfjahbdlepjaaGreatDoor
namespace Mx
open El Pol
/-- an element a part: noughts where P and Q are those of the data -/
def ckr (k : Nat) : M := fun i j => if j < k then pqr i j else if j - k = i then 1 else 0
theorem ckr_p (k : Nat) (A : M) (l : Nat) : mm (k + 2) (ckr k) A 0 l = sP k A (A k) l := by
  show pl (pl (sm k (fun j => ti (ckr k 0 j) (A j l))) (ti (ckr k 0 k) (A k l))) (ti (ckr k 0 (k + 1)) (A (k + 1) l)) = _
  have e1 : ckr k 0 k = 1 := by unfold ckr; rw [if_neg (by omega), if_pos (by omega)]
  have e2 : ckr k 0 (k + 1) = 0 := by unfold ckr; rw [if_neg (by omega), if_neg (by omega)]
  rw [e1, e2, one_ti, zero_ti, pl_zero, sm_congr k (g := fun j => ti (pqr 0 j) (A j l)) (fun j hj => by unfold ckr; rw [if_pos hj])]
  unfold sP
  rw [← mm_pqr0]
  rfl
theorem ckr_q (k : Nat) (A : M) (l : Nat) : mm (k + 2) (ckr k) A 1 l = sQ k A (A (k + 1)) l := by
  show pl (pl (sm k (fun j => ti (ckr k 1 j) (A j l))) (ti (ckr k 1 k) (A k l))) (ti (ckr k 1 (k + 1)) (A (k + 1) l)) = _
  have e1 : ckr k 1 k = 0 := by unfold ckr; rw [if_neg (by omega), if_neg (by omega)]
  have e2 : ckr k 1 (k + 1) = 1 := by unfold ckr; rw [if_neg (by omega), if_pos (by omega)]
  rw [e1, e2, one_ti, zero_ti, pl_zero, sm_congr k (g := fun j => ti (pqr 1 j) (A j l)) (fun j hj => by unfold ckr; rw [if_pos hj])]
  unfold sQ
  rw [← mm_pqr1]
  rfl
/-- would another block there mend both? -/
def fits (k L : Nat) (p q : Nat → El) (i : Nat) : Prop := ∀ l, l < L → ti (q l) (ckr k 0 i) = ti (p l) (ckr k 1 i)
theorem fits_iff {k L i : Nat} (hi : i < k + 2) (A : M) : fits k L (sP k A (A k)) (sQ k A (A (k + 1))) i ↔ Fit k L A (A k) (A (k + 1)) i := by
  unfold fits Fit
  by_cases h1 : i < k
  · have e1 : ckr k 0 i = 1 := by unfold ckr; rw [if_pos h1]; rfl
    have e2 : ckr k 1 i = g2 i := by unfold ckr; rw [if_pos h1]; rfl
    rw [e1, e2]
    constructor
    · intro h
      exact .inl ⟨h1, fun l hl => by rw [← ti_one (sQ k A (A (k + 1)) l), h l hl, ti_comm]⟩
    · rintro (⟨_, h⟩ | ⟨h, _⟩ | ⟨h, _⟩)
      · exact fun l hl => by rw [ti_one, h l hl, ti_comm]
      · omega
      · omega
  · by_cases h2 : i = k
    · have e1 : ckr k 0 i = 1 := by unfold ckr; rw [if_neg h1, if_pos (by omega)]
      have e2 : ckr k 1 i = 0 := by unfold ckr; rw [if_neg h1, if_neg (by omega)]
      rw [e1, e2]
      constructor
      · intro h
        exact .inr (.inl ⟨h2, fun l hl => by rw [← ti_one (sQ k A (A (k + 1)) l), h l hl, ti_zero]⟩)
      · rintro (⟨h, _⟩ | ⟨_, h⟩ | ⟨h, _⟩)
        · omega
        · exact fun l hl => by rw [ti_one, h l hl, ti_zero]
        · omega
    · have e1 : ckr k 0 i = 0 := by unfold ckr; rw [if_neg h1, if_neg (by omega)]
      have e2 : ckr k 1 i = 1 := by unfold ckr; rw [if_neg h1, if_pos (by omega)]
      rw [e1, e2]
      constructor
      · intro h
        exact .inr (.inr ⟨by omega, fun l hl => by rw [← ti_one (sP k A (A k) l), ← h l hl, ti_zero]⟩)
      · rintro (⟨h, _⟩ | ⟨h, _⟩ | ⟨_, h⟩)
        · omega
        · omega
        · exact fun l hl => by rw [ti_one, h l hl, ti_zero]
/-- the rows of Delta: was, now, P, Q -/
def dlr (x : El) : M := fun i j => if i = 0 then (if j < 3 then 1 else 0) else (if j < 2 then x else if j = 2 then 0 else 1)
theorem dlr_p (x : El) (A : M) (l : Nat) : mm 4 (dlr x) A 0 l = pl (pl (A 0 l) (A 1 l)) (A 2 l) := by
  show pl (pl (pl (pl 0 (ti 1 (A 0 l))) (ti 1 (A 1 l))) (ti 1 (A 2 l))) (ti 0 (A 3 l)) = _
  rw [one_ti, one_ti, one_ti, zero_ti, pl_zero, zero_pl]
theorem dlr_q (x : El) (A : M) (l : Nat) : mm 4 (dlr x) A 1 l = pl (pl (ti x (A 0 l)) (ti x (A 1 l))) (A 3 l) := by
  show pl (pl (pl (pl 0 (ti x (A 0 l))) (ti x (A 1 l))) (ti 0 (A 2 l))) (ti 1 (A 3 l)) = _
  rw [one_ti, zero_ti, pl_zero, zero_pl]
end Mx
end Go.Proofs.YtilfjahbdlepjaaGreatDoor

/- One part another one: it is found. -/
namespace Go.Proofs.YtilfjahbdlepjaaGreatDoor
namespace Mx
open El Pol
/-- the i-th part another one -/
abbrev upd (A : M) (i : Nat) (f : Nat → El) : M := fun j => if j = i then f else A j
theorem upd_low {A : M} {i k L : Nat} {f : Nat → El} (hi : k ≤ i) : Eqm k L (upd A i f) A := fun j l hj _ => by
  show (if j = i then f else A j) l = A j l
  rw [if_neg (by omega)]
theorem loc_right {k L : Nat} {A : M} (h : Rgt k L A (A k) (A (k + 1))) : Lct k L A (-1) 0 := .inl ⟨h, rfl, rfl⟩
theorem loc_moved {k L : Nat} (hk : k ≤ 10) {A : M} (hR : Rgt k L A (A k) (A (k + 1))) {i : Nat} (hi : i < k + 2) {f : Nat → El} (hne : ∃ l, l < L ∧ f l ≠ A i l) : Lct k L (upd A i f) i 0 := by
  obtain ⟨l0, hl0, hf⟩ := hne
  have at_ : ∀ j, j ≠ i → upd A i f j = A j := fun j hj => if_neg hj
  have ati : upd A i f i = f := if_pos rfl
  refine .inr (.inl ⟨fun hn => ?_, ⟨i, hi, ?_, rfl⟩, rfl⟩)
  · obtain ⟨h1, h2⟩ := hn l0 hl0
    obtain ⟨g1, g2⟩ := hR l0 hl0
    by_cases hik : i < k
    · rw [at_ k (by omega)] at h1
      have := one_by_p (D := upd A i f) (E := A) (l := l0) hik (fun j _ hj => by rw [at_ j hj]) (h1.symm.trans g1)
      rw [ati] at this
      exact hf this
    · rw [pp_congr (upd_low (by omega)) hl0] at h1
      rw [qq_congr (upd_low (by omega)) hl0] at h2
      by_cases hik2 : i = k
      · subst hik2
        rw [ati] at h1
        exact hf (h1.trans g1.symm)
      · obtain rfl : i = k + 1 := by omega
        rw [ati] at h2
        exact hf (h2.trans g2.symm)
  · by_cases hik : i < k
    · rw [at_ k (by omega), at_ (k + 1) (by omega)]
      exact fit_moved hik hR f
    · by_cases hik2 : i = k
      · subst hik2
        refine .inr (.inl ⟨rfl, fun l hl => ?_⟩)
        unfold sQ
        rw [qq_congr (upd_low (Nat.le_refl _)) hl, at_ (i + 1) (by omega), (hR l hl).2, pl_self]
      · obtain rfl : i = k + 1 := by omega
        refine .inr (.inr ⟨rfl, fun l hl => ?_⟩)
        unfold sP
        rw [pp_congr (upd_low (by omega)) hl, at_ k (by omega), (hR l hl).1, pl_self]
/-- parts of data are right -/
theorem pqp_right (k L : Nat) (D : M) : Rgt k L (pqp k D) (pqp k D k) (pqp k D (k + 1)) := fun l hl => by
  have e : Eqm k L (pqp k D) D := fun j l hj _ => by unfold pqp; rw [if_pos hj]
  rw [pp_congr e hl, qq_congr e hl]
  constructor
  · unfold pqp; rw [if_neg (by omega), if_pos rfl]
  · unfold pqp; rw [if_neg (by omega), if_neg (by omega)]
theorem pqp_data {k : Nat} {D : M} {i : Nat} (h : i < k) : pqp k D i = D i := by unfold pqp; rw [if_pos h]
theorem pqp_p {k : Nat} {D : M} : pqp k D k = pp k D := by unfold pqp; rw [if_neg (by omega), if_pos rfl]
theorem pqp_q {k : Nat} {D : M} : pqp k D (k + 1) = qq k D := by unfold pqp; rw [if_neg (by omega), if_neg (by omega)]
/-- what is healed of parts of data is what it was, whatever stands at those that are lost -/
theorem healed_back {k L : Nat} {A D E : M} {lost : Nat → Bool} (hk : k ≤ 10) (h2 : k ≤ (ix lost (k + 2)).length) (hA : ∀ i, i < k + 2 → lost i = false → ∀ l, l < L → A i l = pqp k D i l) (h : Healed k L A lost E) : Eqm k L E D := by
  have h1 := ix_gn lost k
  have h3 := ix_len_succ lost k
  have h4 : (ix lost (k + 2)).length = _ := ix_len_succ lost (k + 1)
  refine h.same hk (gn_le h2) (Healed.back (fun i hi hl l hlL => by rw [hA i (by omega) hl l hlL, pqp_data hi]) (fun q l hl => by rw [hA k (by omega) q l hl, pqp_p]) (fun q l hl => by rw [hA (k + 1) (by omega) q l hl, pqp_q]) (fun q1 q2 => ?_) (fun q => ?_))
  · rw [q2, if_pos rfl] at h3
    cases e : lost (k + 1) with
    | false => rfl
    | true => rw [e, if_pos rfl] at h4; omega
  · constructor
    · cases e : lost k with
      | false => rfl
      | true => rw [e, if_pos rfl] at h3; split at h4 <;> omega
    · cases e : lost (k + 1) with
      | false => rfl
      | true => rw [e, if_pos rfl] at h4; split at h3 <;> omega
end Mx
end Go.Proofs.YtilfjahbdlepjaaGreatDoor
