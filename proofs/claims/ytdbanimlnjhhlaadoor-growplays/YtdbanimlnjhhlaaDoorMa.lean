/- Texts of plain mathematics, of memory and of walks, in one. -/
/- Products of the field of 256 as plain numbers, and that those by 2, 4, 8 .. come out alike in either order (looked at one by one). -/
namespace Go.Proofs.YtdbanimlnjhhlaaDoor.GF
/-- times x -/
def xt (a : Nat) : Nat := bif Nat.ble 128 a then Nat.xor (2 * a % 256) 29 else 2 * a
/-- n steps of the product -/
def ml : Nat → Nat → Nat → Nat
  | 0, _, _ => 0
  | n + 1, a, b => Nat.xor (bif Nat.beq (b % 2) 1 then a else 0) (ml n (xt a) (b / 2))
def mul (a b : Nat) : Nat := ml 8 a b
def all (p : Nat → Bool) : Nat → Bool
  | 0 => true
  | n + 1 => p n && all p n

theorem all_spec {p : Nat → Bool} {n : Nat} (h : all p n = true) : ∀ i, i < n → p i = true := by
  induction n with
  | zero => intro i hi; omega
  | succ n ih =>
    simp only [all, Bool.and_eq_true] at h
    intro i hi
    by_cases e : i = n
    · rw [e]; exact h.1
    · exact ih h.2 i (by omega)

theorem xt_lin_all : all (fun a => all (fun b => Nat.beq (xt (Nat.xor a b)) (Nat.xor (xt a) (xt b))) 256) 256 = true := by decide +kernel
theorem comm_all : all (fun a => all (fun i => Nat.beq (mul a (2 ^ i)) (mul (2 ^ i) a)) 8) 256 = true := by decide +kernel
theorem top_all : all (fun n => all (fun b => Nat.blt b (2 ^ n) || Nat.ble (2 ^ (n + 1)) b || Nat.blt (Nat.xor b (2 ^ n)) (2 ^ n)) 256) 8 = true := by decide +kernel
theorem xt_lt_all : all (fun a => Nat.blt (xt a) 256) 256 = true := by decide +kernel

end Go.Proofs.YtdbanimlnjhhlaaDoor.GF

/- The field of 256 in plain numbers below 256: sums, products, powers, inverses and which power of 2 one is, and the laws of a field of them. -/
namespace Go.Proofs.YtdbanimlnjhhlaaDoor.GF
theorem xt_lin {a b : Nat} (ha : a < 256) (hb : b < 256) : xt (a ^^^ b) = xt a ^^^ xt b :=
  Nat.eq_of_beq_eq_true (all_spec (all_spec xt_lin_all a ha) b hb)
theorem xt_lt {a : Nat} (ha : a < 256) : xt a < 256 := by
  have := Nat.le_of_ble_eq_true (all_spec xt_lt_all a ha)
  omega
theorem xor_lt {a b : Nat} (ha : a < 256) (hb : b < 256) : a ^^^ b < 256 := Nat.xor_lt_two_pow (n := 8) ha hb

theorem ml_succ (n a b : Nat) : ml (n + 1) a b = (if b % 2 = 1 then a else 0) ^^^ ml n (xt a) (b / 2) := by
  show Nat.xor _ _ = _
  have : (bif Nat.beq (b % 2) 1 then a else 0) = if b % 2 = 1 then a else 0 := by
    by_cases h : b % 2 = 1
    · simp [h]
    · have : b % 2 = 0 := by omega
      rw [this]; rfl
  rw [this]; rfl

theorem ml_lt (n : Nat) : ∀ a b, a < 256 → ml n a b < 256 := by
  induction n with
  | zero => intro a b _; simp [ml]
  | succ n ih =>
    intro a b ha
    rw [ml_succ]
    refine xor_lt ?_ (ih _ _ (xt_lt ha))
    split <;> omega
theorem mul_lt {a : Nat} (b : Nat) (ha : a < 256) : mul a b < 256 := ml_lt 8 a b ha

theorem xor_swap (a b c d : Nat) : (a ^^^ b) ^^^ (c ^^^ d) = (a ^^^ c) ^^^ (b ^^^ d) := by
  apply Nat.eq_of_testBit_eq; intro i; simp only [Nat.testBit_xor]
  cases a.testBit i <;> cases b.testBit i <;> cases c.testBit i <;> cases d.testBit i <;> rfl

theorem ml_add_left (n : Nat) : ∀ a a' b, a < 256 → a' < 256 → ml n (a ^^^ a') b = ml n a b ^^^ ml n a' b := by
  induction n with
  | zero => intros; simp [ml]
  | succ n ih =>
    intro a a' b ha ha'
    rw [ml_succ, ml_succ, ml_succ, xt_lin ha ha', ih _ _ _ (xt_lt ha) (xt_lt ha'), xor_swap]
    congr 1
    split <;> simp

theorem xor_mod2 (a b : Nat) : (a ^^^ b) % 2 = (a % 2 + b % 2) % 2 := by
  have h := Nat.testBit_xor a b 0
  simp only [Nat.testBit_zero] at h
  have h1 := Nat.mod_two_eq_zero_or_one a
  have h2 := Nat.mod_two_eq_zero_or_one b
  have h3 := Nat.mod_two_eq_zero_or_one (a ^^^ b)
  rcases h1 with h1 | h1 <;> rcases h2 with h2 | h2 <;> rcases h3 with h3 | h3 <;> simp_all
theorem xor_div2 (a b : Nat) : (a ^^^ b) / 2 = a / 2 ^^^ b / 2 := by
  apply Nat.eq_of_testBit_eq; intro i
  simp only [Nat.testBit_xor, Nat.testBit_div_two]

theorem ml_add_right (n : Nat) : ∀ a b b', ml n a (b ^^^ b') = ml n a b ^^^ ml n a b' := by
  induction n with
  | zero => intros; simp [ml]
  | succ n ih =>
    intro a b b'
    rw [ml_succ, ml_succ, ml_succ, xor_div2, ih, xor_swap, xor_mod2]
    congr 1
    rcases Nat.mod_two_eq_zero_or_one b with h | h <;> rcases Nat.mod_two_eq_zero_or_one b' with h' | h' <;> simp [h, h']

theorem ml_zero (n : Nat) : ∀ b, ml n 0 b = 0 := by
  induction n with
  | zero => intro b; rfl
  | succ n ih =>
    intro b
    rw [ml_succ]
    have : xt 0 = 0 := rfl
    rw [this, ih]; simp

theorem ml_xt (n : Nat) : ∀ a b, a < 256 → ml n (xt a) b = xt (ml n a b) := by
  induction n with
  | zero => intros; rfl
  | succ n ih =>
    intro a b ha
    rw [ml_succ, ml_succ, xt_lin (by split <;> omega) (ml_lt _ _ _ (xt_lt ha)), ih _ _ (xt_lt ha)]
    congr 1
    split <;> rfl

theorem mul_add_left {a a' : Nat} (b : Nat) (ha : a < 256) (ha' : a' < 256) : mul (a ^^^ a') b = mul a b ^^^ mul a' b := ml_add_left 8 a a' b ha ha'
theorem mul_add (a b b' : Nat) : mul a (b ^^^ b') = mul a b ^^^ mul a b' := ml_add_right 8 a b b'
/-- what is the same at 1, 2, 4 .. 128 and adds up is the same -/
theorem by_bits {f g : Nat → Nat} (hf : ∀ x y, x < 256 → y < 256 → f (x ^^^ y) = f x ^^^ f y) (hg : ∀ x y, x < 256 → y < 256 → g (x ^^^ y) = g x ^^^ g y)
    (h : ∀ i, i < 8 → f (2 ^ i) = g (2 ^ i)) : ∀ b, b < 256 → f b = g b := by
  have f0 : f 0 = 0 := by have := hf 0 0 (by omega) (by omega); rw [Nat.xor_self, Nat.xor_self] at this; exact this
  have g0 : g 0 = 0 := by have := hg 0 0 (by omega) (by omega); rw [Nat.xor_self, Nat.xor_self] at this; exact this
  have key : ∀ n, n ≤ 8 → ∀ b, b < 2 ^ n → f b = g b := by
    intro n
    induction n with
    | zero => intro _ b hb; have : b = 0 := by omega
              rw [this, f0, g0]
    | succ n ih =>
      intro hn b hb
      by_cases hlt : b < 2 ^ n
      · exact ih (by omega) b hlt
      · have hp : 2 ^ (n + 1) ≤ 2 ^ 8 := Nat.pow_le_pow_right (by omega) hn
        have hq : 2 ^ n < 2 ^ (n + 1) := Nat.pow_lt_pow_right (by omega) (by omega)
        have ht := all_spec (all_spec top_all n (by omega)) b (by omega)
        simp only [Bool.or_eq_true] at ht
        rcases ht with (ht | ht) | ht
        · exact absurd (Nat.le_of_ble_eq_true ht) hlt
        · have := Nat.le_of_ble_eq_true ht; omega
        · have ht : b ^^^ 2 ^ n < 2 ^ n := Nat.le_of_ble_eq_true ht
          have e : b = (b ^^^ 2 ^ n) ^^^ 2 ^ n := by rw [Nat.xor_assoc, Nat.xor_self, Nat.xor_zero]
          rw [e, hf _ _ (by omega) (by omega), hg _ _ (by omega) (by omega), ih (by omega) _ ht, h n (by omega)]
  exact fun b hb => key 8 (by omega) b hb
theorem mul_comm {a b : Nat} (ha : a < 256) (hb : b < 256) : mul a b = mul b a :=
  by_bits (f := fun b => mul a b) (g := fun b => mul b a) (fun x y _ _ => mul_add a x y) (fun _ _ hx hy => mul_add_left a hx hy)
    (fun i hi => Nat.eq_of_beq_eq_true (all_spec (all_spec comm_all a ha) i hi)) b hb
theorem mul_xt_left {a : Nat} (b : Nat) (ha : a < 256) : mul (xt a) b = xt (mul a b) := ml_xt 8 a b ha
theorem mul_xt {a b : Nat} (ha : a < 256) (hb : b < 256) : mul a (xt b) = xt (mul a b) := by
  rw [mul_comm ha (xt_lt hb), mul_xt_left a hb, mul_comm hb ha]
theorem zero_mul (b : Nat) : mul 0 b = 0 := ml_zero 8 b
theorem mul_zero (a : Nat) : mul a 0 = 0 := by
  have h := mul_add a 0 0
  rw [Nat.xor_self, Nat.xor_self] at h; exact h
theorem mul_one (a : Nat) : mul a 1 = a := by
  have h0 : ∀ n x, ml n x 0 = 0 := by
    intro n; induction n with
    | zero => intro x; rfl
    | succ n ih => intro x; rw [ml_succ]; simp [ih]
  show ml (7 + 1) a 1 = a
  rw [ml_succ]; simp [h0]
theorem one_mul {a : Nat} (ha : a < 256) : mul 1 a = a := by rw [mul_comm (by omega) ha, mul_one]

theorem assoc_ml (n : Nat) : ∀ a b c, a < 256 → b < 256 → ml n (mul a b) c = mul a (ml n b c) := by
  induction n with
  | zero => intro a b c _ _; simp [ml, mul_zero]
  | succ n ih =>
    intro a b c ha hb
    rw [ml_succ, ml_succ, mul_add, ← mul_xt ha hb, ih _ _ _ ha (xt_lt hb)]
    congr 1
    split <;> simp [mul_zero]
theorem mul_assoc {a b : Nat} (c : Nat) (ha : a < 256) (hb : b < 256) : mul (mul a b) c = mul a (mul b c) := assoc_ml 8 a b c ha hb

theorem ml_more (n : Nat) : ∀ a b, b < 2 ^ n → ml (n + 1) a b = ml n a b := by
  induction n with
  | zero =>
    intro a b hb
    have : b = 0 := by omega
    subst this; rw [ml_succ]; simp [ml]
  | succ n ih =>
    intro a b hb
    rw [ml_succ (n + 1), ml_succ n a b, ih _ _ (by rw [Nat.pow_succ] at hb; omega)]
theorem mul_step (a b : Nat) (hb : b < 256) : mul a b = (if b % 2 = 1 then a else 0) ^^^ mul (xt a) (b / 2) := by
  show ml (7 + 1) a b = _ ^^^ ml (7 + 1) (xt a) (b / 2)
  rw [ml_succ, ml_more 7 (xt a) (b / 2) (by omega)]
theorem mul_odd {a b : Nat} (p : Nat) (hb : b < 256) (h : b % 2 = 1) : p ^^^ mul a b = (p ^^^ a) ^^^ mul (xt a) (b / 2) := by
  rw [mul_step a b hb, if_pos h, Nat.xor_assoc]
theorem mul_even {a b : Nat} (p : Nat) (hb : b < 256) (h : ¬ b % 2 = 1) : p ^^^ mul a b = p ^^^ mul (xt a) (b / 2) := by
  rw [mul_step a b hb, if_neg h, Nat.zero_xor]

def pow (a : Nat) : Nat → Nat
  | 0 => 1
  | n + 1 => mul a (pow a n)
theorem pow_lt {a : Nat} (ha : a < 256) : ∀ n, pow a n < 256
  | 0 => by simp [pow]
  | n + 1 => mul_lt _ ha
theorem pow_add {a : Nat} (ha : a < 256) (n m : Nat) : pow a (n + m) = mul (pow a n) (pow a m) := by
  induction n with
  | zero => simp [pow, one_mul (pow_lt ha m)]
  | succ n ih =>
    rw [Nat.add_right_comm]; simp only [pow]; rw [ih, mul_assoc _ ha (pow_lt ha n)]
theorem pow_mul {a : Nat} (ha : a < 256) (n m : Nat) : pow a (n * m) = pow (pow a n) m := by
  induction m with
  | zero => simp [pow]
  | succ m ih => rw [Nat.mul_succ, Nat.add_comm, pow_add ha, ih]; rfl
theorem pow_one (a : Nat) : pow a 1 = a := by simp [pow, mul_one]
theorem one_pow : ∀ n, pow 1 n = 1
  | 0 => rfl
  | n + 1 => by rw [pow, one_pow n]; rfl
theorem pow_sq {a : Nat} (ha : a < 256) (n : Nat) : pow (mul a a) n = pow a (2 * n) := by
  rw [pow_mul ha]; simp [pow, mul_one]
theorem zero_pow {n : Nat} (h : 0 < n) : pow 0 n = 0 := by
  cases n with
  | zero => omega
  | succ n => simp [pow, zero_mul]

/-- the inverse: to the power 254, by squares -/
def inv (a : Nat) : Nat :=
  let a2 := mul a a; let a4 := mul a2 a2; let a8 := mul a4 a4; let a16 := mul a8 a8; let a32 := mul a16 a16; let a64 := mul a32 a32; let a128 := mul a64 a64
  mul (mul (mul (mul (mul (mul a2 a4) a8) a16) a32) a64) a128
theorem inv_eq {a : Nat} (ha : a < 256) : inv a = pow a 254 := by
  have h1 := pow_one a
  have s : ∀ n, mul (pow a n) (pow a n) = pow a (n + n) := fun n => (pow_add ha n n).symm
  have e2 : mul a a = pow a 2 := by have := s 1; rwa [h1] at this
  unfold inv
  simp only [e2, s, ← pow_add ha]
theorem inv_all : all (fun a => Nat.beq (mul (a + 1) (inv (a + 1))) 1) 255 = true := by decide +kernel
theorem mul_inv {a : Nat} (ha : a < 256) (h0 : a ≠ 0) : mul a (inv a) = 1 := by
  have := Nat.eq_of_beq_eq_true (all_spec inv_all (a - 1) (by omega))
  rwa [show a - 1 + 1 = a by omega] at this
theorem inv_lt {a : Nat} (ha : a < 256) : inv a < 256 := by rw [inv_eq ha]; exact pow_lt ha _
theorem mul_eq_zero {a b : Nat} (ha : a < 256) (hb : b < 256) (h : mul a b = 0) : a = 0 ∨ b = 0 := by
  by_cases h0 : a = 0
  · exact Or.inl h0
  · right
    have : mul (inv a) (mul a b) = b := by
      rw [← mul_assoc b (inv_lt ha) ha, mul_comm (inv_lt ha) ha, mul_inv ha h0, one_mul hb]
    rw [← this, h, mul_zero]
theorem pow_255 {a : Nat} (ha : a < 256) (h0 : a ≠ 0) : pow a 255 = 1 := by
  show mul a (pow a 254) = 1
  rw [← inv_eq ha, mul_inv ha h0]
theorem pow_mod {a : Nat} (ha : a < 256) (h0 : a ≠ 0) (n : Nat) : pow a (n % 255) = pow a n := by
  have h := Nat.div_add_mod n 255
  have : pow a n = mul (pow a (255 * (n / 255))) (pow a (n % 255)) := by rw [← pow_add ha, h]
  rw [this, pow_mul ha, pow_255 ha h0, one_pow, one_mul (pow_lt ha _)]
theorem mul_left_cancel {a b c : Nat} (ha : a < 256) (h0 : a ≠ 0) (hb : b < 256) (hc : c < 256) (h : mul a b = mul a c) : b = c := by
  have e : ∀ x, x < 256 → mul (inv a) (mul a x) = x := fun x hx => by
    rw [← mul_assoc x (inv_lt ha) ha, mul_comm (inv_lt ha) ha, mul_inv ha h0, one_mul hx]
  rw [← e b hb, h, e c hc]
theorem inv_unique {a b : Nat} (ha : a < 256) (h0 : a ≠ 0) (hb : b < 256) (h : mul a b = 1) : b = inv a :=
  mul_left_cancel ha h0 hb (inv_lt ha) (by rw [h, mul_inv ha h0])

/-- the powers of 2, one behind the other -/
def ex : Nat → Nat
  | 0 => 1
  | n + 1 => xt (ex n)
theorem ex_lt : ∀ n, ex n < 256
  | 0 => by simp [ex]
  | n + 1 => xt_lt (ex_lt n)
theorem two_mul {a : Nat} (ha : a < 256) : mul 2 a = xt a := by
  have : mul (xt 1) a = xt (mul 1 a) := mul_xt_left a (by omega)
  rwa [one_mul ha] at this
theorem ex_eq : ∀ n, ex n = pow 2 n
  | 0 => rfl
  | n + 1 => by rw [ex, pow, ← ex_eq n, two_mul (ex_lt n)]
/-- the first n from k on (f of them at most) with x times itself .. -/
def find (a : Nat) : Nat → Nat → Nat → Nat
  | 0, k, _ => k
  | f + 1, k, x => bif Nat.beq x a then k else find a f (k + 1) (xt x)
def log (a : Nat) : Nat := find a 255 0 1
theorem log_all : all (fun a => Nat.blt (log (a + 1)) 255) 255 = true := by decide +kernel
theorem find_spec (a : Nat) : ∀ f k, find a f k (ex k) ≤ k + f ∧ k ≤ find a f k (ex k) ∧ (find a f k (ex k) < k + f → ex (find a f k (ex k)) = a) ∧ ∀ j, k ≤ j → j < find a f k (ex k) → ex j ≠ a := by
  intro f
  induction f with
  | zero => intro k; simp only [find]; exact ⟨by omega, by omega, fun h => by omega, fun j h1 h2 => by omega⟩
  | succ f ih =>
    intro k
    by_cases e : ex k = a
    · have : find a (f + 1) k (ex k) = k := by simp [find, e]
      rw [this]; exact ⟨by omega, by omega, fun _ => e, fun j h1 h2 => by omega⟩
    · have hb : Nat.beq (ex k) a = false := by
        cases hq : Nat.beq (ex k) a
        · rfl
        · exact absurd (Nat.eq_of_beq_eq_true hq) e
      have : find a (f + 1) k (ex k) = find a f (k + 1) (ex (k + 1)) := by simp only [find, hb, ex, cond_false]
      rw [this]
      obtain ⟨h1, h2, h3, h4⟩ := ih (k + 1)
      refine ⟨by omega, by omega, fun h => h3 (by omega), fun j hj1 hj2 => ?_⟩
      by_cases ej : j = k
      · rw [ej]; exact e
      · exact h4 j (by omega) hj2
theorem log_spec {a : Nat} (ha : a < 256) (h0 : a ≠ 0) : log a < 255 ∧ ex (log a) = a ∧ ∀ j, j < log a → ex j ≠ a := by
  have hl := all_spec log_all (a - 1) (by omega)
  rw [show a - 1 + 1 = a by omega] at hl
  have hl : log a < 255 := by have := Nat.le_of_ble_eq_true hl; omega
  obtain ⟨h1, h2, h3, h4⟩ := find_spec a 255 0
  exact ⟨hl, h3 (by show log a < 0 + 255; omega), fun j hj => h4 j (by omega) hj⟩
theorem ex_ne_zero (n : Nat) : ex n ≠ 0 := by
  intro h
  induction n with
  | zero => simp [ex] at h
  | succ n ih =>
    have : mul 2 (ex n) = 0 := by rw [two_mul (ex_lt n)]; exact h
    rcases mul_eq_zero (by omega) (ex_lt n) this with h | h
    · omega
    · exact ih h
end Go.Proofs.YtdbanimlnjhhlaaDoor.GF

/- The elements of the field of 256 as a type of their own (numbers below 256), with the laws of a field, so that no bound need be carried. -/
namespace Go.Proofs.YtdbanimlnjhhlaaDoor
abbrev El := Fin 256
namespace El
def pl (a b : El) : El := ⟨a.val ^^^ b.val, GF.xor_lt a.2 b.2⟩
def ti (a b : El) : El := ⟨GF.mul a.val b.val, GF.mul_lt _ a.2⟩
def iv (a : El) : El := ⟨GF.inv a.val, GF.inv_lt a.2⟩
def pw (a : El) (n : Nat) : El := ⟨GF.pow a.val n, GF.pow_lt a.2 n⟩
theorem pl_comm (a b : El) : pl a b = pl b a := Fin.ext (Nat.xor_comm _ _)
theorem pl_assoc (a b c : El) : pl (pl a b) c = pl a (pl b c) := Fin.ext (Nat.xor_assoc _ _ _)
theorem pl_self (a : El) : pl a a = 0 := Fin.ext (Nat.xor_self _)
theorem pl_zero (a : El) : pl a 0 = a := Fin.ext (Nat.xor_zero _)
theorem zero_pl (a : El) : pl 0 a = a := Fin.ext (Nat.zero_xor _)
theorem ti_comm (a b : El) : ti a b = ti b a := Fin.ext (GF.mul_comm a.2 b.2)
theorem ti_assoc (a b c : El) : ti (ti a b) c = ti a (ti b c) := Fin.ext (GF.mul_assoc _ a.2 b.2)
theorem ti_pl (a b c : El) : ti a (pl b c) = pl (ti a b) (ti a c) := Fin.ext (GF.mul_add _ _ _)
theorem pl_ti (a b c : El) : ti (pl a b) c = pl (ti a c) (ti b c) := Fin.ext (GF.mul_add_left _ a.2 b.2)
theorem ti_one (a : El) : ti a 1 = a := Fin.ext (GF.mul_one _)
theorem one_ti (a : El) : ti 1 a = a := Fin.ext (GF.one_mul a.2)
theorem ti_zero (a : El) : ti a 0 = 0 := Fin.ext (GF.mul_zero _)
theorem zero_ti (a : El) : ti 0 a = 0 := Fin.ext (GF.zero_mul _)
theorem val_ne {a : El} (h : a ≠ 0) : a.val ≠ 0 := fun e => h (Fin.ext e)
theorem ti_iv {a : El} (h : a ≠ 0) : ti a (iv a) = 1 := Fin.ext (GF.mul_inv a.2 (val_ne h))
theorem iv_ti {a : El} (h : a ≠ 0) : ti (iv a) a = 1 := by rw [ti_comm, ti_iv h]
theorem ti_eq_zero {a b : El} (h : ti a b = 0) : a = 0 ∨ b = 0 := by
  rcases GF.mul_eq_zero a.2 b.2 (congrArg Fin.val h) with h | h
  · exact .inl (Fin.ext h)
  · exact .inr (Fin.ext h)
theorem ti_ne_zero {a b : El} (ha : a ≠ 0) (hb : b ≠ 0) : ti a b ≠ 0 := fun h => (ti_eq_zero h).elim ha hb
theorem iv_ne_zero {a : El} (h : a ≠ 0) : iv a ≠ 0 := by
  intro e
  have := ti_iv h
  rw [e, ti_zero] at this
  exact absurd this (by decide)
theorem ti_left_cancel {a b c : El} (ha : a ≠ 0) (h : ti a b = ti a c) : b = c := by
  have e : ∀ x, ti (iv a) (ti a x) = x := fun x => by rw [← ti_assoc, iv_ti ha, one_ti]
  rw [← e b, h, e c]
theorem pl_left_cancel {a b c : El} (h : pl a b = pl a c) : b = c := by
  have e : ∀ x, pl a (pl a x) = x := fun x => by rw [← pl_assoc, pl_self, zero_pl]
  rw [← e b, h, e c]
theorem pl_eq_zero {a b : El} (h : pl a b = 0) : a = b := by
  have : pl a b = pl a a := by rw [h, pl_self]
  exact (pl_left_cancel this).symm
theorem pl_swap (a b c d : El) : pl (pl a b) (pl c d) = pl (pl a c) (pl b d) := Fin.ext (GF.xor_swap _ _ _ _)
theorem pl_pl_self (a b : El) : pl a (pl a b) = b := by rw [← pl_assoc, pl_self, zero_pl]
theorem pl_left_comm (a b c : El) : pl a (pl b c) = pl b (pl a c) := by rw [← pl_assoc, pl_comm a b, pl_assoc]
theorem ti_left_comm (a b c : El) : ti a (ti b c) = ti b (ti a c) := by rw [← ti_assoc, ti_comm a b, ti_assoc]
end El
end Go.Proofs.YtdbanimlnjhhlaaDoor

/- Polynomials over the field of 256 as lists of coefficients, that of x to the 0 first: sums, products, values, division with a rest, the one through points: each is the only one of its kind. -/
namespace Go.Proofs.YtdbanimlnjhhlaaDoor
namespace Pol
open El
def co (p : List El) (i : Nat) : El := p.getD i 0
def trim : List El → List El
  | [] => []
  | c :: p => if trim p = [] ∧ c = 0 then [] else c :: trim p
def add : List El → List El → List El
  | [], b => b
  | x :: a, [] => x :: a
  | x :: a, y :: b => pl x y :: add a b
def scale (c : El) (p : List El) : List El := p.map (ti c)
def mul : List El → List El → List El
  | [], _ => []
  | x :: a, b => add (scale x b) (0 :: mul a b)
def ev : List El → El → El
  | [], _ => 0
  | c :: p, x => pl c (ti x (ev p x))
/-- the sum of the first n -/
def sm : Nat → (Nat → El) → El
  | 0, _ => 0
  | n + 1, f => pl (sm n f) (f n)

theorem co_nil (i : Nat) : co [] i = 0 := by simp [co]
theorem co_zero (c : El) (p : List El) : co (c :: p) 0 = c := by simp [co]
theorem co_succ (c : El) (p : List El) (i : Nat) : co (c :: p) (i + 1) = co p i := by simp [co]
theorem co_beyond (p : List El) (i : Nat) (h : p.length ≤ i) : co p i = 0 := by simp [co, h]
theorem co_trim (p : List El) : ∀ i, co (trim p) i = co p i := by
  induction p with
  | nil => intro i; rfl
  | cons c p ih =>
    intro i
    by_cases h : trim p = [] ∧ c = 0
    · rw [show trim (c :: p) = [] from if_pos h, co_nil]
      cases i with
      | zero => rw [co_zero, h.2]
      | succ i => rw [co_succ, ← ih i, h.1, co_nil]
    · rw [show trim (c :: p) = c :: trim p from if_neg h]
      cases i with
      | zero => rw [co_zero, co_zero]
      | succ i => rw [co_succ, co_succ, ih]
theorem trim_nil_iff (p : List El) : trim p = [] ↔ ∀ i, co p i = 0 := by
  constructor
  · intro h i; rw [← co_trim, h, co_nil]
  · induction p with
    | nil => intro _; rfl
    | cons c p ih =>
      intro h
      have h0 := h 0
      rw [co_zero] at h0
      have hp := ih (fun i => by have := h (i + 1); rwa [co_succ] at this)
      exact if_pos ⟨hp, h0⟩
theorem trim_ext : ∀ a b : List El, (∀ i, co a i = co b i) → trim a = trim b
  | [], b, h => ((trim_nil_iff b).2 (fun i => by rw [← h i, co_nil])).symm
  | x :: a, [], h => (trim_nil_iff (x :: a)).2 (fun i => by rw [h i, co_nil])
  | x :: a, y :: b, h => by
    have h0 := h 0
    rw [co_zero, co_zero] at h0
    have ht := trim_ext a b (fun i => by have := h (i + 1); rwa [co_succ, co_succ] at this)
    simp only [trim, ht, h0]
theorem trim_trim (p : List El) : trim (trim p) = trim p := trim_ext _ _ (co_trim p)
theorem trim_length_le (p : List El) : (trim p).length ≤ p.length := by
  induction p with
  | nil => exact Nat.le_refl _
  | cons c p ih =>
    by_cases h : trim p = [] ∧ c = 0
    · rw [show trim (c :: p) = [] from if_pos h]; simp
    · rw [show trim (c :: p) = c :: trim p from if_neg h]; simpa using ih
theorem trim_top (p : List El) (h : trim p ≠ []) : co p ((trim p).length - 1) ≠ 0 := by
  induction p with
  | nil => exact absurd rfl h
  | cons c p ih =>
    by_cases hc : trim p = [] ∧ c = 0
    · exact absurd (if_pos hc) h
    · rw [show trim (c :: p) = c :: trim p from if_neg hc]
      by_cases hp : trim p = []
      · rw [hp]
        intro e
        exact hc ⟨hp, by rwa [List.length_singleton, Nat.sub_self, co_zero] at e⟩
      · have hl : 0 < (trim p).length := List.length_pos_iff.2 hp
        rw [List.length_cons, Nat.add_sub_cancel, show (trim p).length = (trim p).length - 1 + 1 by omega, co_succ]
        exact ih hp
theorem trim_length_iff (p : List El) (n : Nat) : (trim p).length ≤ n ↔ ∀ i, n ≤ i → co p i = 0 := by
  constructor
  · intro h i hi; rw [← co_trim]; exact co_beyond _ _ (by omega)
  · intro h
    by_cases e : trim p = []
    · simp [e]
    · have ht := trim_top p e
      have hl : 0 < (trim p).length := List.length_pos_iff.2 e
      rcases Nat.lt_or_ge n (trim p).length with k | k
      · exact absurd (h _ (by omega)) ht
      · exact k

theorem sm_congr (n : Nat) {f g : Nat → El} (h : ∀ i, i < n → f i = g i) : sm n f = sm n g := by
  induction n with
  | zero => rfl
  | succ n ih => rw [sm, sm, ih (fun i hi => h i (by omega)), h n (by omega)]
theorem sm_zero (n : Nat) {f : Nat → El} (h : ∀ i, i < n → f i = 0) : sm n f = 0 := by
  induction n with
  | zero => rfl
  | succ n ih => rw [sm, ih (fun i hi => h i (by omega)), h n (by omega), pl_zero]
theorem sm_pl (n : Nat) (f g : Nat → El) : sm n (fun i => pl (f i) (g i)) = pl (sm n f) (sm n g) := by
  induction n with
  | zero => exact (pl_self 0).symm
  | succ n ih => rw [sm, sm, sm, ih, pl_swap]
theorem sm_ti (n : Nat) (c : El) (f : Nat → El) : sm n (fun i => ti c (f i)) = ti c (sm n f) := by
  induction n with
  | zero => exact (ti_zero c).symm
  | succ n ih => rw [sm, sm, ih, ti_pl]
theorem sm_front (n : Nat) (f : Nat → El) : sm (n + 1) f = pl (f 0) (sm n (fun i => f (i + 1))) := by
  induction n with
  | zero => rw [sm, sm, sm, zero_pl, pl_zero]
  | succ n ih => rw [sm, ih, sm, pl_assoc]
theorem sm_one (n j : Nat) (hj : j < n) {f : Nat → El} (h : ∀ i, i < n → i ≠ j → f i = 0) : sm n f = f j := by
  induction n with
  | zero => omega
  | succ n ih =>
    by_cases e : j = n
    · subst e; rw [sm, sm_zero j (fun i hi => h i (by omega) (by omega)), zero_pl]
    · rw [sm, ih (by omega) (fun i hi hne => h i (by omega) hne), h n (by omega) (fun q => e q.symm), pl_zero]

theorem co_add : ∀ (a b : List El) (i : Nat), co (add a b) i = pl (co a i) (co b i)
  | [], b, i => by rw [co_nil, zero_pl]; rfl
  | x :: a, [], i => by rw [co_nil, pl_zero]; rfl
  | x :: a, y :: b, 0 => by rw [co_zero, co_zero]; rfl
  | x :: a, y :: b, i + 1 => by rw [co_succ, co_succ]; exact co_add a b i
theorem co_scale (c : El) (p : List El) : ∀ i, co (scale c p) i = ti c (co p i) := by
  induction p with
  | nil => intro i; show co [] i = _; rw [co_nil, ti_zero]
  | cons x p ih =>
    intro i
    cases i with
    | zero => rw [co_zero]; rfl
    | succ i => rw [co_succ]; exact ih i
theorem co_mul (a b : List El) : ∀ n, co (mul a b) n = sm (n + 1) (fun i => ti (co a i) (co b (n - i))) := by
  induction a with
  | nil => intro n; rw [show mul [] b = [] from rfl, co_nil, sm_zero]; intro i _; rw [co_nil, zero_ti]
  | cons x a ih =>
    intro n
    rw [show mul (x :: a) b = add (scale x b) (0 :: mul a b) from rfl, co_add, co_scale, sm_front, co_zero]
    cases n with
    | zero => rw [co_zero]; rfl
    | succ n =>
      rw [co_succ, ih n]
      congr 1
      exact sm_congr _ (fun i hi => by rw [co_succ, show n + 1 - (i + 1) = n - i by omega])
/-- the sum the other way round -/
theorem sm_rev (n : Nat) : ∀ f : Nat → El, sm (n + 1) f = sm (n + 1) (fun i => f (n - i)) := by
  induction n with
  | zero => intro f; rfl
  | succ n ih =>
    intro f
    rw [sm_front (n + 1) (fun i => f (n + 1 - i)), sm, pl_comm, ih f]
    congr 1
    exact sm_congr _ (fun i hi => by rw [show n + 1 - (i + 1) = n - i by omega])
theorem mul_comm_co (a b : List El) (n : Nat) : co (mul a b) n = co (mul b a) n := by
  rw [co_mul, co_mul, sm_rev]
  exact sm_congr _ (fun i hi => by rw [show n - (n - i) = i by omega, ti_comm])

theorem ev_zero (p : List El) (h : ∀ i, co p i = 0) (x : El) : ev p x = 0 := by
  induction p with
  | nil => rfl
  | cons c p ih =>
    have h0 := h 0
    rw [co_zero] at h0
    rw [ev, h0, ih (fun i => by have := h (i + 1); rwa [co_succ] at this), ti_zero, pl_zero]
theorem ev_add : ∀ (a b : List El) (x : El), ev (add a b) x = pl (ev a x) (ev b x)
  | [], b, x => (zero_pl _).symm
  | y :: a, [], x => (pl_zero _).symm
  | y :: a, z :: b, x => by
    show pl (pl y z) (ti x (ev (add a b) x)) = _
    rw [ev_add a b x, ti_pl, pl_swap]; rfl
theorem ev_scale (c : El) (p : List El) (x : El) : ev (scale c p) x = ti c (ev p x) := by
  induction p with
  | nil => exact (ti_zero c).symm
  | cons y p ih =>
    show pl (ti c y) (ti x (ev (scale c p) x)) = ti c (pl y (ti x (ev p x)))
    rw [ih, ti_pl, ti_left_comm]
theorem ev_mul (a b : List El) (x : El) : ev (mul a b) x = ti (ev a x) (ev b x) := by
  induction a with
  | nil => exact (zero_ti _).symm
  | cons y a ih =>
    show ev (add (scale y b) (0 :: mul a b)) x = ti (pl y (ti x (ev a x))) (ev b x)
    rw [ev_add, ev_scale, ev, ih, zero_pl, pl_ti, ti_assoc]
theorem ev_ext (a b : List El) (h : ∀ i, co a i = co b i) (x : El) : ev a x = ev b x := by
  have : ev (add a b) x = 0 := ev_zero _ (fun i => by rw [co_add, h i, pl_self]) x
  rw [ev_add] at this
  exact pl_eq_zero this
theorem ev_trim (p : List El) (x : El) : ev (trim p) x = ev p x := ev_ext _ _ (co_trim p) x
theorem ev_sum (p : List El) (x : El) : ev p x = sm p.length (fun i => ti (co p i) (pw x i)) := by
  induction p with
  | nil => rfl
  | cons c p ih =>
    rw [List.length_cons, sm_front, co_zero, show pw x 0 = 1 from rfl, ti_one, ev, ih, ← sm_ti]
    congr 1
    exact sm_congr _ (fun i _ => by rw [co_succ, ti_left_comm]; rfl)

theorem co_mul_top (a b : List El) (n m : Nat) (ha : ∀ i, n < i → co a i = 0) (hb : ∀ i, m < i → co b i = 0) : co (mul a b) (n + m) = ti (co a n) (co b m) := by
  rw [co_mul, sm_one _ n (by omega)]
  · rw [show n + m - n = m by omega]
  · intro i hi hne
    rcases Nat.lt_or_ge n i with k | k
    · rw [ha i k, zero_ti]
    · rw [hb (n + m - i) (by omega), ti_zero]
theorem co_mul_beyond (a b : List El) (n m : Nat) (ha : ∀ i, n < i → co a i = 0) (hb : ∀ i, m < i → co b i = 0) (k : Nat) (hk : n + m < k) : co (mul a b) k = 0 := by
  rw [co_mul]
  refine sm_zero _ (fun i hi => ?_)
  rcases Nat.lt_or_ge n i with q | q
  · rw [ha i q, zero_ti]
  · rw [hb (k - i) (by omega), ti_zero]
/-- a product of two that are not 0 is as long as both, less one -/
theorem mul_length (a b : List El) (ha : trim a ≠ []) (hb : trim b ≠ []) : (trim (mul a b)).length = (trim a).length + (trim b).length - 1 := by
  have la : 0 < (trim a).length := List.length_pos_iff.2 ha
  have lb : 0 < (trim b).length := List.length_pos_iff.2 hb
  have za := (trim_length_iff a (trim a).length).1 (Nat.le_refl _)
  have zb := (trim_length_iff b (trim b).length).1 (Nat.le_refl _)
  have top := co_mul_top a b ((trim a).length - 1) ((trim b).length - 1) (fun i hi => za i (by omega)) (fun i hi => zb i (by omega))
  have ne : co (mul a b) ((trim a).length - 1 + ((trim b).length - 1)) ≠ 0 := by
    rw [top]; exact ti_ne_zero (trim_top a ha) (trim_top b hb)
  apply Nat.le_antisymm
  · exact (trim_length_iff _ _).2 (fun i hi => co_mul_beyond a b ((trim a).length - 1) ((trim b).length - 1) (fun i hi => za i (by omega)) (fun i hi => zb i (by omega)) i (by omega))
  · rcases Nat.lt_or_ge (trim (mul a b)).length ((trim a).length + (trim b).length - 1) with k | k
    · exact absurd ((trim_length_iff (mul a b) (trim (mul a b)).length).1 (Nat.le_refl _) _ (by omega)) ne
    · exact k
theorem mul_zero_left (a b : List El) (h : ∀ i, co a i = 0) (n : Nat) : co (mul a b) n = 0 := by
  rw [co_mul]; exact sm_zero _ (fun i _ => by rw [h i, zero_ti])
theorem co_mul_add (a a' b : List El) (n : Nat) : co (mul (add a a') b) n = pl (co (mul a b) n) (co (mul a' b) n) := by
  rw [co_mul, co_mul, co_mul, ← sm_pl]
  exact sm_congr _ (fun i _ => by rw [co_add, pl_ti])
/-- how often, and the rest: there is one answer -/
theorem div_unique (b q q' r r' : List El) (hr : (trim r).length < (trim b).length) (hr' : (trim r').length < (trim b).length)
    (h : ∀ i, pl (co (mul q b) i) (co r i) = pl (co (mul q' b) i) (co r' i)) : trim q = trim q' ∧ trim r = trim r' := by
  have hb : trim b ≠ [] := by intro e; rw [e] at hr; simp at hr
  have hs : ∀ i, co (mul (add q q') b) i = co (add r r') i := by
    intro i
    rw [co_mul_add, co_add]
    have := h i
    have e : pl (pl (co (mul q b) i) (co r i)) (pl (co (mul q' b) i) (co r' i)) = 0 := by rw [this, pl_self]
    rw [pl_swap] at e
    exact pl_eq_zero e
  have hq : ∀ i, co (add q q') i = 0 := by
    rw [← trim_nil_iff]
    by_cases e : trim (add q q') = []
    · exact e
    · exfalso
      have l1 := mul_length (add q q') b e hb
      rw [trim_ext _ _ hs] at l1
      have lq : 0 < (trim (add q q')).length := List.length_pos_iff.2 e
      have l2 : (trim (add r r')).length ≤ (trim b).length - 1 := (trim_length_iff _ _).2 (fun i hi => by
        rw [co_add, (trim_length_iff r ((trim b).length - 1)).1 (by omega) i hi, (trim_length_iff r' ((trim b).length - 1)).1 (by omega) i hi, pl_self])
      omega
  refine ⟨trim_ext _ _ (fun i => pl_eq_zero (by rw [← co_add]; exact hq i)), trim_ext _ _ (fun i => pl_eq_zero ?_)⟩
  rw [← co_add, ← hs i]
  exact mul_zero_left _ _ hq i

/-- what is left of p when x less c is taken out -/
def qt (c : El) : List El → List El
  | [] => []
  | _ :: p => ev p c :: qt c p
theorem ev_qt (c : El) (p : List El) (x : El) : ev p x = pl (ti (pl x c) (ev (qt c p) x)) (ev p c) := by
  induction p with
  | nil => show (0 : El) = pl (ti (pl x c) 0) 0; rw [ti_zero, pl_zero]
  | cons y p ih =>
    show pl y (ti x (ev p x)) = pl (ti (pl x c) (pl (ev p c) (ti x (ev (qt c p) x)))) (pl y (ti c (ev p c)))
    have e : ti (pl x c) (pl (ev p c) (ti x (ev (qt c p) x))) = pl (ti x (ev p x)) (ti c (ev p c)) := by
      rw [ti_pl, ti_left_comm, ih, ti_pl, pl_ti, pl_assoc, pl_assoc, pl_comm (ti c (ev p c)), pl_comm (ti x _), pl_assoc]
      rw [pl_comm (ti c (ev p c)) (ti x (ev p c))]
    rw [e, pl_comm y, pl_comm y, pl_assoc, ← pl_assoc (ti c (ev p c)), pl_self, zero_pl]
theorem co_qt_zero (c : El) (p : List El) : co p 0 = pl (ti c (co (qt c p) 0)) (ev p c) := by
  cases p with
  | nil => show co [] 0 = pl (ti c (co [] 0)) 0; rw [co_nil, ti_zero, pl_zero]
  | cons y p => rw [co_zero, qt, co_zero, ev, pl_comm y, ← pl_assoc, pl_self, zero_pl]
theorem co_qt (c : El) (p : List El) : ∀ i, co p (i + 1) = pl (co (qt c p) i) (ti c (co (qt c p) (i + 1))) := by
  induction p with
  | nil => intro i; rw [show qt c [] = [] from rfl, co_nil, co_nil, ti_zero, pl_zero]
  | cons y p ih =>
    intro i
    rw [co_succ, qt, co_succ]
    cases i with
    | zero => rw [co_zero, co_qt_zero c p, pl_comm]
    | succ i => rw [co_succ]; exact ih i
theorem qt_beyond (c : El) (p : List El) (n : Nat) (h : ∀ i, n + 1 ≤ i → co p i = 0) : ∀ i, n ≤ i → co (qt c p) i = 0 := by
  have key : ∀ (p : List El) (n : Nat), (∀ i, n + 1 ≤ i → co p i = 0) → ∀ i, n ≤ i → co (qt c p) i = 0 := by
    intro p
    induction p with
    | nil => intro n _ i _; exact co_nil i
    | cons y p ih =>
      intro n h i hi
      cases n with
      | zero =>
        have hz : ∀ j, co p j = 0 := fun j => by have := h (j + 1) (by omega); rwa [co_succ] at this
        cases i with
        | zero => rw [qt, co_zero, ev_zero p hz]
        | succ i => rw [qt, co_succ]; exact ih 0 (fun j _ => hz j) i (by omega)
      | succ n =>
        obtain ⟨i, rfl⟩ : ∃ k, i = k + 1 := ⟨i - 1, by omega⟩
        rw [qt, co_succ]
        exact ih n (fun j hj => by have := h (j + 1) (by omega); rwa [co_succ] at this) i (by omega)
  exact key p n h
/-- one that is no longer than there are places where it is 0, each another one, is 0 -/
theorem zero_of_roots : ∀ (xs : List El) (p : List El), xs.Nodup → (∀ i, xs.length ≤ i → co p i = 0) → (∀ x ∈ xs, ev p x = 0) → ∀ i, co p i = 0 := by
  intro xs
  induction xs with
  | nil => intro p _ h _ i; exact h i (Nat.zero_le _)
  | cons c xs ih =>
    intro p hn hl hz
    have hc := hz c (List.mem_cons_self ..)
    obtain ⟨hc1, hn1⟩ := List.nodup_cons.1 hn
    have hq := ih (qt c p) hn1 (qt_beyond c p xs.length (fun i hi => hl i (by simpa using hi))) (fun x hx => by
      have e := ev_qt c p x
      rw [hz x (List.mem_cons_of_mem _ hx), hc, pl_zero] at e
      rcases ti_eq_zero e.symm with k | k
      · exact absurd (pl_eq_zero k ▸ hx) hc1
      · exact k)
    intro i
    cases i with
    | zero => rw [co_qt_zero c p, hq 0, hc, ti_zero, pl_zero]
    | succ i => rw [co_qt c p i, hq i, hq (i + 1), ti_zero, pl_zero]
/-- through so many points, each X another one, goes one that is no longer -/
theorem through_unique (xs : List El) (p q : List El) (hn : xs.Nodup) (hp : (trim p).length ≤ xs.length) (hq : (trim q).length ≤ xs.length)
    (h : ∀ x ∈ xs, ev p x = ev q x) : trim p = trim q := by
  refine trim_ext _ _ (fun i => pl_eq_zero ?_)
  rw [← co_add]
  refine zero_of_roots xs (add p q) hn (fun i hi => ?_) (fun x hx => ?_) i
  · rw [co_add, (trim_length_iff p xs.length).1 hp i hi, (trim_length_iff q xs.length).1 hq i hi, pl_self]
  · rw [ev_add, h x hx, pl_self]
/-- the product of x less each of l -/
def made : List El → List El
  | [] => [1]
  | c :: l => mul (made l) [c, 1]
theorem ev_made (l : List El) (x : El) : ev (made l) x = 0 ↔ x ∈ l := by
  have two : ∀ c : El, ev [c, 1] x = pl c x := fun c => by show pl c (ti x (pl 1 (ti x 0))) = _; rw [ti_zero, pl_zero, ti_one]
  induction l with
  | nil =>
    constructor
    · intro h
      have : ev (made []) x = 1 := by show pl 1 (ti x 0) = 1; rw [ti_zero, pl_zero]
      rw [this] at h
      exact absurd h (by decide)
    · intro h; cases h
  | cons c l ih =>
    rw [made, ev_mul, two, List.mem_cons]
    constructor
    · intro h
      rcases ti_eq_zero h with k | k
      · exact .inr (ih.1 k)
      · exact .inl (pl_eq_zero k).symm
    · intro h
      rcases h with k | k
      · rw [k, pl_self, ti_zero]
      · rw [ih.2 k, zero_ti]
end Pol
end Go.Proofs.YtdbanimlnjhhlaaDoor

/- What the loops of a package of polynomials do, as plain lists: a multiple added from a place on, a product row by row, a value from the last coefficient on, a division, the one through points as Newton did. -/
namespace Go.Proofs.YtdbanimlnjhhlaaDoor
namespace Pol
open El
theorem ext_co {a b : List El} (hl : a.length = b.length) (h : ∀ i, co a i = co b i) : a = b := by
  refine List.ext_getElem? (fun i => ?_)
  by_cases hi : i < a.length
  · have := h i
    simp only [co, List.getD_eq_getElem?_getD] at this
    rw [List.getElem?_eq_getElem hi, List.getElem?_eq_getElem (by omega)] at this ⊢
    simpa using this
  · rw [List.getElem?_eq_none (by omega), List.getElem?_eq_none (by omega)]
theorem co_set (l : List El) (k : Nat) (v : El) (hk : k < l.length) (i : Nat) : co (l.set k v) i = if i = k then v else co l i := by
  simp only [co, List.getD_eq_getElem?_getD, List.getElem?_set]
  by_cases e : k = i
  · subst e; simp [hk]
  · rw [if_neg e, if_neg (by omega)]
theorem co_take (p : List El) (k i : Nat) : co (p.take k) i = if i < k then co p i else 0 := by
  simp only [co, List.getD_eq_getElem?_getD, List.getElem?_take]
  split <;> simp
theorem co_replicate (n i : Nat) : co (List.replicate n (0 : El)) i = 0 := by
  simp only [co, List.getD_eq_getElem?_getD, List.getElem?_replicate]
  split <;> simp
/-- L with c times p added from place o on -/
def addAt (L : List El) (o : Nat) (p : List El) (c : El) : List El :=
  (List.range L.length).map (fun j => pl (co L j) (if o ≤ j then ti (co p (j - o)) c else 0))
theorem addAt_length (L : List El) (o : Nat) (p : List El) (c : El) : (addAt L o p c).length = L.length := by simp [addAt]
theorem co_addAt (L : List El) (o : Nat) (p : List El) (c : El) (h : o + p.length ≤ L.length) (j : Nat) :
    co (addAt L o p c) j = pl (co L j) (if o ≤ j then ti (co p (j - o)) c else 0) := by
  by_cases hj : j < L.length
  · show (addAt L o p c).getD j 0 = _
    simp [addAt, hj]
  · rw [co_beyond _ _ (by rw [addAt_length]; omega), co_beyond L j (by omega), zero_pl]
    split
    · rw [co_beyond p _ (by omega), zero_ti]
    · rfl
theorem addAt_zero (L : List El) (o : Nat) (p : List El) (c : El) (h : o + p.length ≤ L.length) : addAt L o (p.take 0) c = L :=
  ext_co (addAt_length ..) (fun i => by rw [co_addAt _ _ _ _ (by simp; omega)]; simp [co_nil, zero_ti, pl_zero])
theorem addAt_step (L : List El) (o : Nat) (p : List El) (c : El) (h : o + p.length ≤ L.length) (k : Nat) (hk : k < p.length) :
    (addAt L o (p.take k) c).set (o + k) (pl (co (addAt L o (p.take k) c) (o + k)) (ti (co p k) c)) = addAt L o (p.take (k + 1)) c := by
  refine ext_co (by simp [addAt_length]) (fun i => ?_)
  have h1 : (p.take k).length ≤ p.length := by simp; omega
  have h2 : (p.take (k + 1)).length ≤ p.length := by simp; omega
  rw [co_set _ _ _ (by rw [addAt_length]; omega), co_addAt _ _ _ _ (by omega), co_addAt _ _ _ _ (by omega), co_addAt _ _ _ _ (by omega)]
  by_cases e : i = o + k
  · subst e
    rw [if_pos rfl, if_pos (by omega), if_pos (by omega), co_take, co_take, if_neg (by omega), if_pos (by omega), zero_ti, pl_zero]
    rw [show o + k - o = k by omega]
  · rw [if_neg e]
    by_cases ho : o ≤ i
    · rw [if_pos ho, if_pos ho, co_take, co_take]
      by_cases hik : i - o < k
      · rw [if_pos hik, if_pos (by omega)]
      · rw [if_neg hik, if_neg (by omega)]
    · rw [if_neg ho, if_neg ho]
theorem addAt_all (L : List El) (o : Nat) (p : List El) (c : El) (k : Nat) (h : p.length ≤ k) : addAt L o (p.take k) c = addAt L o p c := by
  rw [List.take_of_length_le h]
/-- a place more of the left factor -/
theorem co_mul_take (a b : List El) (k n : Nat) (hk : k < a.length) :
    co (mul (a.take (k + 1)) b) n = pl (co (mul (a.take k) b) n) (if k ≤ n then ti (co b (n - k)) (co a k) else 0) := by
  rw [co_mul, co_mul]
  have e : ∀ i, ti (co (a.take (k + 1)) i) (co b (n - i)) = pl (ti (co (a.take k) i) (co b (n - i))) (if i = k then ti (co b (n - k)) (co a k) else 0) := by
    intro i
    rw [co_take, co_take]
    by_cases h1 : i < k
    · rw [if_pos h1, if_pos (by omega), if_neg (by omega), pl_zero]
    · by_cases h2 : i = k
      · subst h2; rw [if_pos (by omega), if_neg h1, if_pos rfl, zero_ti, zero_pl, ti_comm]
      · rw [if_neg (by omega), if_neg h1, if_neg h2, zero_ti, pl_zero]
  rw [sm_congr _ (fun i _ => e i), sm_pl]
  congr 1
  by_cases hkn : k ≤ n
  · rw [if_pos hkn, sm_one (n + 1) k (by omega) (fun i _ hi => if_neg hi), if_pos rfl]
  · rw [if_neg hkn]
    exact sm_zero _ (fun i hi => if_neg (by omega))
/-- what the row holds behind k rounds of a product -/
theorem prod_start (a b : List El) : ∀ j, co (List.replicate (a.length + b.length) (0 : El)) j = co (mul (a.take 0) b) j := by
  intro j; rw [co_replicate, List.take_zero, mul, co_nil]
theorem prod_step (a b L : List El) (k : Nat) (hk : k < a.length) (hl : L.length = a.length + b.length) (h : ∀ j, co L j = co (mul (a.take k) b) j) :
    ∀ j, co (addAt L k b (co a k)) j = co (mul (a.take (k + 1)) b) j := by
  intro j
  rw [co_addAt _ _ _ _ (by omega), h j, co_mul_take a b k j hk]
theorem prod_end (a b L : List El) (k : Nat) (hk : a.length ≤ k) (h : ∀ j, co L j = co (mul (a.take k) b) j) : trim L = trim (mul a b) :=
  trim_ext _ _ (fun j => by rw [h j, List.take_of_length_le hk])
/-- a value, from the last coefficient on -/
theorem ev_drop (p : List El) (k : Nat) (hk : k < p.length) (x : El) : ev (p.drop k) x = pl (ti (ev (p.drop (k + 1)) x) x) (co p k) := by
  rw [List.drop_eq_getElem_cons hk, ev, pl_comm, ti_comm]
  congr 1
  simp [co, hk]
theorem ev_drop_all (p : List El) (k : Nat) (hk : p.length ≤ k) (x : El) : ev (p.drop k) x = 0 := by
  rw [List.drop_of_length_le hk]; rfl
/-- how many are left without noughts at the end -/
theorem trim_take (p : List El) : trim p = p.take (trim p).length := by
  refine ext_co (by rw [List.length_take]; have := trim_length_le p; omega) (fun i => ?_)
  rw [co_trim, co_take]
  by_cases h : i < (trim p).length
  · rw [if_pos h]
  · rw [if_neg h]; exact (trim_length_iff p (trim p).length).1 (Nat.le_refl _) i (by omega)
theorem trim_len_of (p : List El) (n : Nat) (h : ∀ i, n ≤ i → co p i = 0) (h0 : n = 0 ∨ co p (n - 1) ≠ 0) : (trim p).length = n := by
  have h1 := (trim_length_iff p n).2 h
  rcases h0 with h0 | h0
  · omega
  · by_cases e : (trim p).length = n
    · exact e
    · exact absurd ((trim_length_iff p (n - 1)).1 (by omega) (n - 1) (Nat.le_refl _)) h0
theorem trim_id (p : List El) (h : p = [] ∨ co p (p.length - 1) ≠ 0) : trim p = p := by
  have := trim_len_of p p.length (fun i hi => co_beyond p i hi) (h.elim (fun e => .inl (by rw [e]; rfl)) .inr)
  rw [trim_take p, this, List.take_length]
theorem trim_last (p : List El) (h : trim p ≠ []) : co (trim p) ((trim p).length - 1) ≠ 0 := by
  rw [co_trim]; exact trim_top p h
theorem trim_take_trim (p : List El) (n : Nat) (h : n = (trim p).length) : trim (p.take n) = p.take n := by
  rw [h, ← trim_take, trim_trim]
/-- the sum, into a row of noughts -/
theorem sum_end (a b : List El) (n : Nat) (ha : a.length ≤ n) (hb : b.length ≤ n) :
    trim (addAt (addAt (List.replicate n (0 : El)) 0 a 1) 0 b 1) = trim (add a b) := by
  refine trim_ext _ _ (fun j => ?_)
  rw [co_addAt _ _ _ _ (by rw [addAt_length]; simp; omega), co_addAt _ _ _ _ (by simp; omega), co_replicate, co_add]
  simp [zero_pl, ti_one]
/-- one step of a division: what is divided is still so often, and the rest -/
theorem div_step (a b often left : List El) (hb : b ≠ []) (hll : b.length ≤ left.length)
    (ho : left.length ≤ often.length)
    (h0 : co often (left.length - b.length) = 0)
    (h : ∀ i, co a i = pl (co (mul often b) i) (co left i)) (f : El) :
    ∀ i, co a i = pl (co (mul (often.set (left.length - b.length) f) b) i) (co (addAt left (left.length - b.length) b f) i) := by
  intro i
  have hbl : 0 < b.length := List.length_pos_iff.2 hb
  rw [co_addAt _ _ _ _ (by omega), h i]
  have e : ∀ i, co (often.set (left.length - b.length) f) i = pl (co often i) (if i = left.length - b.length then f else 0) := by
    intro i
    rw [co_set _ _ _ (by omega)]
    by_cases e : i = left.length - b.length
    · rw [if_pos e, if_pos e, e, h0, zero_pl]
    · rw [if_neg e, if_neg e, pl_zero]
  have e2 : co (mul (often.set (left.length - b.length) f) b) i = pl (co (mul often b) i) (if left.length - b.length ≤ i then ti f (co b (i - (left.length - b.length))) else 0) := by
    rw [co_mul, co_mul, sm_congr (i + 1) (g := fun j => pl (ti (co often j) (co b (i - j))) (if j = left.length - b.length then ti f (co b (i - (left.length - b.length))) else 0)), sm_pl]
    · congr 1
      by_cases hk : left.length - b.length ≤ i
      · rw [if_pos hk, sm_one (i + 1) (left.length - b.length) (by omega) (fun j _ hj => if_neg hj), if_pos rfl]
      · rw [if_neg hk]; exact sm_zero _ (fun j hj => if_neg (by omega))
    · intro j _
      rw [e j, pl_ti]
      congr 1
      by_cases hj : j = left.length - b.length
      · rw [if_pos hj, if_pos hj, hj]
      · rw [if_neg hj, if_neg hj, zero_ti]
  rw [e2]
  by_cases hk : left.length - b.length ≤ i
  · rw [if_pos hk, if_pos hk, ti_comm f]
    rw [pl_swap, pl_self, pl_zero]
  · rw [if_neg hk, if_neg hk, pl_zero, pl_zero]
/-- and the last coefficient is gone -/
theorem div_top (b left : List El) (hb : b ≠ []) (hlb : co b (b.length - 1) ≠ 0) (hll : b.length ≤ left.length) :
    ∀ i, left.length - 1 ≤ i → co (addAt left (left.length - b.length) b (ti (co left (left.length - 1)) (iv (co b (b.length - 1))))) i = 0 := by
  intro i hi
  have hbl : 0 < b.length := List.length_pos_iff.2 hb
  rw [co_addAt _ _ _ _ (by omega), if_pos (by omega)]
  by_cases e : i = left.length - 1
  · subst e
    rw [show left.length - 1 - (left.length - b.length) = b.length - 1 by omega, ← ti_assoc, ti_comm (co b _), ti_assoc, ti_iv hlb, ti_one, pl_self]
  · rw [co_beyond left i (by omega), co_beyond b _ (by omega), zero_ti, pl_self]
end Pol
end Go.Proofs.YtdbanimlnjhhlaaDoor

/- Invariants of a division and of Newton's way through points, and that what comes of them is the only one of its kind. -/
namespace Go.Proofs.YtdbanimlnjhhlaaDoor
namespace Pol
open El
theorem co_mul_congr (a a' b b' : List El) (ha : ∀ i, co a i = co a' i) (hb : ∀ i, co b i = co b' i) (n : Nat) : co (mul a b) n = co (mul a' b') n := by
  rw [co_mul, co_mul]; exact sm_congr _ (fun i _ => by rw [ha, hb])
/-- so often, and the rest -/
def DivOk (a b q r : List El) : Prop :=
  trim q = q ∧ trim r = r ∧ r.length < (trim b).length ∧ q.length ≤ (trim a).length ∧ ∀ i, co a i = pl (co (mul q b) i) (co r i)
def DivInv (a b often left : List El) : Prop :=
  trim left = left ∧ often.length = (trim a).length ∧ left.length ≤ often.length ∧ (∀ i, i + b.length ≤ left.length → co often i = 0) ∧ ∀ i, co a i = pl (co (mul often b) i) (co left i)
theorem div_start (a b : List El) : DivInv a b (List.replicate (trim a).length 0) (trim a) := by
  refine ⟨trim_trim a, by simp, by simp, fun i _ => co_replicate _ i, fun i => ?_⟩
  rw [co_trim, mul_zero_left _ _ (fun i => co_replicate _ i), zero_pl]
theorem div_round (a b often left : List El) (hb : trim b ≠ []) (hbb : trim b = b) (h : DivInv a b often left) (hl : b.length ≤ left.length) :
    let f := ti (co left (left.length - 1)) (iv (co b (b.length - 1)))
    let left' := addAt left (left.length - b.length) b f
    (trim left').length < left.length ∧ DivInv a b (often.set (left.length - b.length) f) (left'.take (trim left').length) := by
  intro f left'
  obtain ⟨h1, h2, h3, h4, h5⟩ := h
  have hb0 : b ≠ [] := hbb ▸ hb
  have hlb : co b (b.length - 1) ≠ 0 := by have := trim_last b hb; rwa [hbb] at this
  have hbl : 0 < b.length := List.length_pos_iff.2 hb0
  have ht := div_top b left hb0 hlb hl
  have hs := div_step a b often left hb0 hl h3 (h4 _ (by omega)) h5 f
  have hlt : (trim left').length ≤ left.length - 1 := (trim_length_iff left' (left.length - 1)).2 ht
  refine ⟨by omega, trim_take_trim left' _ rfl, by simpa using h2, by rw [List.length_set, List.length_take, addAt_length]; omega, fun i hi => ?_, fun i => ?_⟩
  · rw [List.length_take, addAt_length] at hi
    rw [co_set _ _ _ (by omega), if_neg (by omega)]
    exact h4 i (by omega)
  · rw [hs i]
    congr 1
    rw [← trim_take, co_trim]
theorem div_done (a b often left : List El) (h : DivInv a (trim b) often left) (hl : left.length < (trim b).length) : DivOk a b (trim often) left := by
  obtain ⟨h1, h2, h3, h4, h5⟩ := h
  refine ⟨trim_trim _, h1, hl, by have := trim_length_le often; omega, fun i => ?_⟩
  rw [h5 i]
  congr 1
  exact co_mul_congr _ _ _ _ (fun i => (co_trim _ i).symm) (fun i => co_trim b i) i
theorem DivOk.same {a b q r q' r' : List El} (h : DivOk a b q r) (h' : DivOk a b q' r') : q = q' ∧ r = r' := by
  obtain ⟨a1, a2, a3, _, a4⟩ := h
  obtain ⟨b1, b2, b3, _, b4⟩ := h'
  have := div_unique b q q' r r' (by rwa [a2]) (by rwa [b2]) (fun i => by rw [← a4 i, ← b4 i])
  rwa [a1, a2, b1, b2] at this
theorem DivOk.back {a b q r : List El} (h : DivOk a b q r) : trim (add (trim (mul q b)) r) = trim a :=
  trim_ext _ _ (fun i => by rw [co_add, co_trim, h.2.2.2.2 i])
theorem DivOk.short {a b q r : List El} (h : DivOk a b q r) (n : Nat) (ha : a.length ≤ n) (hb : b.length ≤ n) : (trim (mul q b)).length ≤ n := by
  refine (trim_length_iff _ _).2 (fun i hi => ?_)
  have e := h.2.2.2.2 i
  have h3 := h.2.2.1
  have := trim_length_le b
  rw [co_beyond a i (by omega), co_beyond r i (by omega), pl_zero] at e
  exact e.symm
/-- 0 just at the first k of X, and one coefficient more than they are -/
def Van (X : Nat → El) (k : Nat) (V : List El) : Prop :=
  V.length = k + 1 ∧ trim V = V ∧ ∀ x, ev V x = 0 ↔ ∃ j, j < k ∧ X j = x
theorem two_ev (c x : El) : ev [c, 1] x = pl c x := by
  show pl c (ti x (pl 1 (ti x 0))) = _; rw [ti_zero, pl_zero, ti_one]
theorem two_trim (c : El) : trim [c, 1] = [c, 1] := trim_id _ (.inr (by show (1 : El) ≠ 0; decide))
theorem one_trim : trim [(1 : El)] = [1] := trim_id _ (.inr (by show (1 : El) ≠ 0; decide))
theorem van_start (X : Nat → El) : Van X 0 [1] := by
  refine ⟨rfl, one_trim, fun x => ?_⟩
  have : ev [(1 : El)] x = 1 := by show pl 1 (ti x 0) = 1; rw [ti_zero, pl_zero]
  rw [this]
  constructor
  · intro h; exact absurd h (by decide)
  · rintro ⟨j, hj, _⟩; omega
theorem van_step (X : Nat → El) (k : Nat) (V : List El) (h : Van X k V) : Van X (k + 1) (trim (mul V [X k, 1])) := by
  obtain ⟨h1, h2, h3⟩ := h
  have n1 : trim V ≠ [] := by rw [h2]; intro e; rw [e] at h1; simp at h1
  have n2 : trim [X k, 1] ≠ [] := by rw [two_trim]; simp
  refine ⟨?_, trim_trim _, fun x => ?_⟩
  · rw [mul_length V _ n1 n2, h2, two_trim, h1]; simp
  · rw [ev_trim, ev_mul, two_ev]
    constructor
    · intro h
      rcases ti_eq_zero h with e | e
      · obtain ⟨j, hj, hx⟩ := (h3 x).1 e; exact ⟨j, by omega, hx⟩
      · exact ⟨k, by omega, pl_eq_zero e⟩
    · rintro ⟨j, hj, hx⟩
      by_cases e : j = k
      · subst e; rw [hx, pl_self, ti_zero]
      · rw [(h3 x).2 ⟨j, by omega, hx⟩, zero_ti]
theorem ev_addAt (L p : List El) (c x : El) (h : p.length ≤ L.length) : ev (addAt L 0 p c) x = pl (ev L x) (ti c (ev p x)) := by
  rw [ev_ext (addAt L 0 p c) (add L (scale c p)), ev_add, ev_scale]
  intro i
  rw [co_addAt _ _ _ _ (by omega), co_add, co_scale, if_pos (Nat.zero_le _), Nat.sub_zero, ti_comm]
/-- through the first k points, with k coefficients -/
def Thr (X Y : Nat → El) (k : Nat) (T : List El) : Prop := (∀ i, k ≤ i → co T i = 0) ∧ ∀ j, j < k → ev T (X j) = Y j
theorem thr_start (X Y : Nat → El) (n : Nat) : Thr X Y 0 (List.replicate n 0) := ⟨fun i _ => co_replicate n i, fun j hj => by omega⟩
theorem thr_not (X : Nat → El) (n k : Nat) (V : List El) (hd : ∀ i j, i < j → j < n → X i ≠ X j) (hk : k < n) (hV : Van X k V) : ev V (X k) ≠ 0 := by
  intro h
  obtain ⟨j, hj, hx⟩ := (hV.2.2 _).1 h
  exact hd j k hj hk hx
theorem thr_step (X Y : Nat → El) (n k : Nat) (T V : List El) (hd : ∀ i j, i < j → j < n → X i ≠ X j) (hk : k < n) (hl : T.length = n) (hT : Thr X Y k T) (hV : Van X k V) :
    Thr X Y (k + 1) (addAt T 0 V (ti (pl (Y k) (ev T (X k))) (iv (ev V (X k))))) := by
  have hne := thr_not X n k V hd hk hV
  have hvl := hV.1
  refine ⟨fun i hi => ?_, fun j hj => ?_⟩
  · rw [co_addAt _ _ _ _ (by omega), hT.1 i (by omega), if_pos (by omega), co_beyond V _ (by omega), zero_ti, pl_self]
  · rw [ev_addAt _ _ _ _ (by omega)]
    by_cases e : j = k
    · subst e
      rw [ti_assoc, iv_ti hne, ti_one, pl_comm (Y j), pl_pl_self]
    · rw [hT.2 j (by omega), (hV.2.2 (X j)).2 ⟨j, by omega, rfl⟩, ti_zero, pl_zero]
/-- the one through n points -/
def Through (X Y : Nat → El) (n : Nat) (p : List El) : Prop := trim p = p ∧ p.length ≤ n ∧ ∀ j, j < n → ev p (X j) = Y j
theorem thr_done (X Y : Nat → El) (n : Nat) (T : List El) (h : Thr X Y n T) : Through X Y n (trim T) :=
  ⟨trim_trim _, (trim_length_iff T n).2 h.1, fun j hj => by rw [ev_trim]; exact h.2 j hj⟩
theorem nodup_of (X : Nat → El) (n : Nat) (hd : ∀ i j, i < j → j < n → X i ≠ X j) : ((List.range n).map X).Nodup := by
  rw [List.nodup_iff_pairwise_ne, List.pairwise_map]
  exact List.Pairwise.imp_of_mem (fun {a b} ha hb hab => hd a b hab (List.mem_range.1 hb)) (List.pairwise_lt_range)
theorem Through.same {X Y : Nat → El} {n : Nat} {p q : List El} (hd : ∀ i j, i < j → j < n → X i ≠ X j) (h : Through X Y n p) (h' : Through X Y n q) : p = q := by
  have := through_unique ((List.range n).map X) p q (nodup_of X n hd) (by rw [h.1]; simpa using h.2.1) (by rw [h'.1]; simpa using h'.2.1) (fun x hx => by
    obtain ⟨j, hj, rfl⟩ := List.mem_map.1 hx
    rw [h.2.2 j (List.mem_range.1 hj), h'.2.2 j (List.mem_range.1 hj)])
  rwa [h.1, h'.1] at this
/-- by a factor without a rest, just if it is 0 there -/
theorem rest_root {p q r : List El} {x : El} (h : DivOk p [x, 1] q r) : r = [] ↔ ev p x = 0 := by
  obtain ⟨_, h2, h3, _, h5⟩ := h
  rw [two_trim] at h3
  have e : ev p x = ev r x := by
    rw [ev_ext p (add (mul q [x, 1]) r) (fun i => by rw [co_add]; exact h5 i), ev_add, ev_mul, two_ev, pl_self, ti_zero, zero_pl]
  rw [e]
  match r, h2, h3 with
  | [], _, _ => simp [ev]
  | [c], h2, _ =>
    constructor
    · intro h; simp at h
    · intro h
      have hc : c = 0 := by have : ev [c] x = c := by (show pl c (ti x 0) = c; rw [ti_zero, pl_zero])
                            rw [← this]; exact h
      subst hc
      have : trim [(0 : El)] = [] := rfl
      rw [this] at h2
      simp at h2
  | _ :: _ :: _, _, h3 => simp at h3; omega
end Pol
end Go.Proofs.YtdbanimlnjhhlaaDoor
