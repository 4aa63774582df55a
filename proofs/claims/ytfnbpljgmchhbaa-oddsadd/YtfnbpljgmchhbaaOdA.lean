/- In how many ways, plainly: so many of n; sets of disks as numbers; in how many of them a stripe loses too much. -/
import Derived.Test.YtfnbpljgmchhbaaPcD
namespace Go.Proofs.Ytfnbpljgmchhbaa
/-- in how many ways k of n can be taken -/
def chs : Nat → Nat → Nat
  | _, 0 => 1
  | 0, _ + 1 => 0
  | n + 1, k + 1 => chs n k + chs n (k + 1)
theorem chs_zero (n : Nat) : chs n 0 = 1 := by cases n <;> rfl
theorem chs_succ (n k : Nat) : chs (n + 1) (k + 1) = chs n k + chs n (k + 1) := rfl
theorem chs_none : ∀ {n k : Nat}, n < k → chs n k = 0
  | 0, k + 1, _ => rfl
  | n + 1, k + 1, h => by rw [chs_succ, chs_none (by omega), chs_none (by omega)]
theorem chs_self : ∀ n, chs n n = 1
  | 0 => rfl
  | n + 1 => by rw [chs_succ, chs_self n, chs_none (by omega)]
theorem chs_le : ∀ n k, chs n k ≤ 2 ^ n
  | n, 0 => by rw [chs_zero]; exact Nat.one_le_two_pow
  | 0, k + 1 => by show 0 ≤ _; omega
  | n + 1, k + 1 => by
    rw [chs_succ, Nat.pow_succ]
    have := chs_le n k
    have := chs_le n (k + 1)
    omega
theorem chs_pos : ∀ {n k : Nat}, k ≤ n → 0 < chs n k
  | n, 0, _ => by rw [chs_zero]; omega
  | n + 1, k + 1, h => by
    rw [chs_succ]
    have := chs_pos (n := n) (k := k) (by omega)
    omega
/-- how many of a and of b more -/
theorem cn_add (p : Nat → Bool) (a : Nat) : ∀ b, cn p (a + b) = cn p a + cn (fun i => p (a + i)) b
  | 0 => rfl
  | b + 1 => by
    show cn p (a + b) + (if p (a + b) = true then 1 else 0) = cn p a + (cn (fun i => p (a + i)) b + if p (a + b) = true then 1 else 0)
    rw [cn_add p a b]
    omega
theorem cn_succ (p : Nat → Bool) (n : Nat) : cn p (n + 1) = cn p n + if p n = true then 1 else 0 := rfl
theorem cn_all {p : Nat → Bool} : ∀ {n}, (∀ i, i < n → p i = true) → cn p n = n
  | 0, _ => rfl
  | n + 1, h => by rw [cn_succ, cn_all (fun i hi => h i (by omega)), if_pos (h n (by omega))]
theorem cn_pos {p : Nat → Bool} {i : Nat} : ∀ {n}, i < n → p i = true → 0 < cn p n
  | n + 1, hi, hp => by
    rw [cn_succ]
    by_cases e : i = n
    · rw [← e, if_pos hp]; omega
    · have := cn_pos (n := n) (by omega) hp
      omega
theorem cn_some {p : Nat → Bool} : ∀ {n}, 0 < cn p n → ∃ i, i < n ∧ p i = true
  | 0, h => absurd h (Nat.lt_irrefl _)
  | n + 1, h => by
    rw [cn_succ] at h
    by_cases hp : p n = true
    · exact ⟨n, by omega, hp⟩
    · rw [if_neg hp] at h
      obtain ⟨i, hi, q⟩ := cn_some (n := n) (by omega)
      exact ⟨i, by omega, q⟩
/-- is disk d in the set s? -/
def bts (s d : Nat) : Bool := Nat.testBit s d
/-- how many of n are -/
def szs (n s : Nat) : Nat := cn (bts s) n
theorem bts_low {n s d : Nat} (hd : d < n) : bts (2 ^ n + s) d = bts s d := Nat.testBit_two_pow_add_gt hd s
theorem bts_top {n s : Nat} (hs : s < 2 ^ n) : bts (2 ^ n + s) n = true := by
  unfold bts
  rw [Nat.testBit_two_pow_add_eq, Nat.testBit_lt_two_pow hs]
  rfl
theorem bts_out {n s : Nat} (hs : s < 2 ^ n) : bts s n = false := Nat.testBit_lt_two_pow hs
theorem bts_div (s d : Nat) : bts s d = decide (s / 2 ^ d % 2 = 1) := Nat.testBit_eq_decide_div_mod_eq
theorem szs_out {n s : Nat} (hs : s < 2 ^ n) : szs (n + 1) s = szs n s := by
  unfold szs
  rw [cn_succ, bts_out hs, if_neg (by simp)]
  omega
theorem szs_top {n s : Nat} (hs : s < 2 ^ n) : szs (n + 1) (2 ^ n + s) = szs n s + 1 := by
  unfold szs
  rw [cn_succ, bts_top hs, if_pos rfl, cn_congr (fun d hd => bts_low hd)]
/-- of n there are as many sets of k as there are ways -/
theorem sets_chs : ∀ n k, cn (fun s => decide (szs n s = k)) (2 ^ n) = chs n k
  | 0, 0 => rfl
  | 0, k + 1 => rfl
  | n + 1, k => by
    rw [Nat.pow_succ, Nat.mul_two, cn_add]
    have e1 : cn (fun s => decide (szs (n + 1) s = k)) (2 ^ n) = cn (fun s => decide (szs n s = k)) (2 ^ n) := cn_congr (fun s hs => by rw [szs_out hs])
    rw [e1, sets_chs n k]
    cases k with
    | zero =>
      rw [chs_zero, chs_zero, cn_zero (fun s hs => by rw [szs_top hs]; simp)]
    | succ k =>
      have e2 : cn (fun s => decide (szs (n + 1) (2 ^ n + s) = k + 1)) (2 ^ n) = cn (fun s => decide (szs n s = k)) (2 ^ n) := cn_congr (fun s hs => by
        rw [szs_top hs]
        by_cases q : szs n s = k
        · simp [q]
        · simp [q])
      rw [e2, sets_chs n k, chs_succ]
      omega
/-- any disks are a set -/
theorem set_of (p : Nat → Bool) : ∀ n, ∃ s, s < 2 ^ n ∧ ∀ d, d < n → bts s d = p d
  | 0 => ⟨0, by decide, fun d hd => absurd hd (Nat.not_lt_zero _)⟩
  | n + 1 => by
    obtain ⟨s, hs, h⟩ := set_of p n
    by_cases q : p n = true
    · refine ⟨2 ^ n + s, by rw [Nat.pow_succ]; omega, fun d hd => ?_⟩
      by_cases e : d = n
      · rw [e, bts_top hs, q]
      · rw [bts_low (by omega)]; exact h d (by omega)
    · refine ⟨s, by rw [Nat.pow_succ]; omega, fun d hd => ?_⟩
      by_cases e : d = n
      · rw [e, bts_out hs]; simpa using q
      · exact h d (by omega)
/-- how many a stripe loses that has some disks -/
def lst (has : Nat → Bool) (n s : Nat) : Nat := cn (fun d => has d && bts s d) n
theorem lst_le (has : Nat → Bool) (n s : Nat) : lst has n s ≤ szs n s := cn_mono (fun d _ h => by simp at h; exact h.2)
theorem lst_all {has : Nat → Bool} {n : Nat} (h : ∀ d, d < n → has d = true) (s : Nat) : lst has n s = szs n s := cn_congr (fun d hd => by rw [h d hd]; rfl)
/-- a stripe loses too much -/
def ftl (has : Nat → Nat → Bool) (m n par s : Nat) : Bool := anyB (fun i => decide (par < lst (has i) n s)) m
def ftn (has : Nat → Nat → Bool) (m n f par : Nat) : Nat := cn (fun s => decide (szs n s = f) && ftl has m n par s) (2 ^ n)
theorem ftn_le (has : Nat → Nat → Bool) (m n f par : Nat) : ftn has m n f par ≤ chs n f := by
  rw [← sets_chs]
  exact cn_mono (fun s _ h => by simp at h; simp [h.1])
theorem ftn_par (has : Nat → Nat → Bool) (m n f par : Nat) : ftn has m n f (par + 1) ≤ ftn has m n f par :=
  cn_mono (fun s _ h => by
    rw [Bool.and_eq_true] at h ⊢
    refine ⟨h.1, ?_⟩
    obtain ⟨i, hi, q⟩ := anyB_true.1 h.2
    exact anyB_true.2 ⟨i, hi, by have := of_decide_eq_true q; exact decide_eq_true (by omega)⟩)
theorem ftn_few (has : Nat → Nat → Bool) {m n f par : Nat} (h : f ≤ par) : ftn has m n f par = 0 :=
  cn_zero (fun s _ => by
    rw [Bool.and_eq_false_iff]
    by_cases q : szs n s = f
    · refine .inr (anyB_false.2 (fun i _ => decide_eq_false ?_))
      have := lst_le (has i) n s
      omega
    · exact .inl (decide_eq_false q))
theorem ftn_none (has : Nat → Nat → Bool) (n f par : Nat) : ftn has 0 n f par = 0 := cn_zero (fun s _ => by rw [Bool.and_eq_false_iff]; exact .inr rfl)
/-- stripes on all disks -/
theorem ftn_all {has : Nat → Nat → Bool} {m n f par : Nat} (hm : 0 < m) (h : ∀ i, i < m → ∀ d, d < n → has i d = true) (hf : par < f) : ftn has m n f par = chs n f := by
  rw [← sets_chs]
  refine cn_congr (fun s _ => ?_)
  by_cases q : szs n s = f
  · rw [decide_eq_true q, Bool.true_and]
    exact anyB_true.2 ⟨0, hm, decide_eq_true (by rw [lst_all (h 0 hm)]; omega)⟩
  · rw [decide_eq_false q, Bool.false_and]
/-- a stripe that is wider than parity is lost somehow -/
theorem ftn_some {has : Nat → Nat → Bool} {m n par i : Nat} (hi : i < m) (hw : par < cn (has i) n) : ∃ f, f ≤ n ∧ 0 < ftn has m n f par := by
  obtain ⟨s, hs, h⟩ := set_of (has i) n
  refine ⟨szs n s, cn_le _ _, cn_pos (i := s) hs ?_⟩
  rw [Bool.and_eq_true]
  refine ⟨decide_eq_true rfl, anyB_true.2 ⟨i, hi, decide_eq_true ?_⟩⟩
  have : lst (has i) n s = cn (has i) n := cn_congr (fun d hd => by rw [h d hd, Bool.and_self])
  omega
/-- a stripe that is no wider than parity is never lost -/
theorem ftn_thin {has : Nat → Nat → Bool} {m n f par : Nat} (hw : ∀ i, i < m → cn (has i) n ≤ par) : ftn has m n f par = 0 :=
  cn_zero (fun s _ => by
    rw [Bool.and_eq_false_iff]
    refine .inr (anyB_false.2 (fun i hi => decide_eq_false ?_))
    have h1 : lst (has i) n s ≤ cn (has i) n := cn_mono (fun d _ h => by simp at h; exact h.1)
    have := hw i hi
    omega)
/-- what a stripe's list says is what its disks say -/
theorem row_lst {n : Int} {N : Nat} (hN : n = (N : Int)) {f : Nat → Int} (p : Nat → Bool) : ∀ {l : Nat}, RowOk n l f → cn (fun j => p (f j).toNat) l = cn (fun d => isIn l f (d : Int) && p d) N
  | 0, _ => by rw [cn_zero (p := fun d => isIn 0 f (d : Int) && p d) (fun d _ => by rw [Bool.and_eq_false_iff]; exact .inl rfl)]; rfl
  | l + 1, h => by
    have h0 : RowOk n l f := ⟨fun j hj => h.1 j (by omega), fun j hj => h.2 j (by omega), fun k hk j hj => h.3 k (by omega) j hj⟩
    have hr := h.1 l (by omega)
    have hr2 := h.2 l (by omega)
    rw [cn_succ, row_lst hN p h0]
    obtain ⟨e, he⟩ : ∃ e : Nat, f l = (e : Int) := ⟨(f l).toNat, by omega⟩
    have hne : isIn l f (e : Int) = false := isIn_false.2 (fun j hj => by rw [← he]; exact h.3 l (by omega) j hj)
    rw [he, Int.toNat_natCast]
    by_cases q : p e = true
    · rw [if_pos q]
      refine (cn_one (b := e) (by omega) (fun d _ hd => ?_) (by rw [hne]; rfl) ?_).symm
      · rw [isIn_succ, he, decide_eq_false (fun x => hd (by omega)), Bool.or_false]
      · rw [isIn_succ, he, decide_eq_true rfl, Bool.or_true, q]; rfl
    · rw [if_neg q, Nat.add_zero]
      refine cn_congr (fun d _ => ?_)
      by_cases hd : d = e
      · rw [hd]; simp at q; rw [q, Bool.and_false, Bool.and_false]
      · rw [isIn_succ, he, decide_eq_false (fun x => hd (by omega)), Bool.or_false]
end Go.Proofs.Ytfnbpljgmchhbaa
