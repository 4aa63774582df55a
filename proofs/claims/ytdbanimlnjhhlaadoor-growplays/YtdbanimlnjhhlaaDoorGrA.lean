/- One disk more: where cells stand while they move, that no two stand at one place, and how many rows each disk has: plain. -/
import Derived.Test.YtdbanimlnjhhlaaDoorPcA
namespace Go.Proofs.YtdbanimlnjhhlaaDoor
/-- by how many disks the cell k stands, where t have moved; its disk; its row -/
def gm (n t k : Nat) : Nat := if k < t then n + 1 else n
def gd (n t k : Nat) : Nat := k % gm n t k
def gr (n t k : Nat) : Nat := k / gm n t k
theorem gm_yes {n t k : Nat} (h : k < t) : gm n t k = n + 1 := if_pos h
theorem gm_no {n t k : Nat} (h : ¬ k < t) : gm n t k = n := if_neg h
theorem gm_pos {n t k : Nat} (hn : 1 ≤ n) : 1 ≤ gm n t k := by unfold gm; split <;> omega
theorem gm_other {n t k : Nat} (h : k ≠ t) : gm n (t + 1) k = gm n t k := by
  unfold gm
  by_cases e : k < t
  · rw [if_pos e, if_pos (by omega)]
  · rw [if_neg e, if_neg (by omega)]
theorem gd_other {n t k : Nat} (h : k ≠ t) : gd n (t + 1) k = gd n t k := by unfold gd; rw [gm_other h]
theorem gr_other {n t k : Nat} (h : k ≠ t) : gr n (t + 1) k = gr n t k := by unfold gr; rw [gm_other h]
theorem gd_lt {n t k : Nat} (hn : 1 ≤ n) : gd n t k < n + 1 := by
  have h := Nat.mod_lt k (gm_pos (n := n) (t := t) (k := k) hn)
  unfold gd
  have : gm n t k ≤ n + 1 := by unfold gm; split <;> omega
  omega
theorem gd_old {n t k : Nat} (hn : 1 ≤ n) (h : ¬ k < t) : gd n t k < n := by
  have h2 := Nat.mod_lt k (gm_pos (n := n) (t := t) (k := k) hn)
  unfold gd
  rw [gm_no h] at h2 ⊢
  exact h2
theorem g_back (n t k : Nat) : gm n t k * gr n t k + gd n t k = k := Nat.div_add_mod k (gm n t k)
theorem gr_le (n t k : Nat) : gr n t k ≤ k := Nat.div_le_self _ _
/-- no two at one place -/
theorem g_inj {n t i j : Nat} (_hn : 1 ≤ n) (h1 : gd n t i = gd n t j) (h2 : gr n t i = gr n t j) : i = j := by
  have a := g_back n t i
  have b := g_back n t j
  by_cases hi : i < t
  · by_cases hj : j < t
    · rw [gm_yes hi, h1, h2] at a
      rw [gm_yes hj] at b
      omega
    · rw [gm_yes hi, h1, h2, Nat.add_mul, Nat.one_mul] at a
      rw [gm_no hj] at b
      omega
  · by_cases hj : j < t
    · rw [gm_no hi, h1, h2] at a
      rw [gm_yes hj, Nat.add_mul, Nat.one_mul] at b
      omega
    · rw [gm_no hi, h1, h2] at a
      rw [gm_no hj] at b
      omega
/-- the place that a cell moves to has no cell, or the cell itself -/
theorem g_free {n t k : Nat} (hn : 1 ≤ n) (hk : k ≠ t) : ¬ (gd n t k = t % (n + 1) ∧ gr n t k = t / (n + 1)) := by
  rintro ⟨h1, h2⟩
  refine hk (g_inj (t := t + 1) hn ?_ ?_)
  · rw [gd_other hk, h1]
    unfold gd
    rw [gm_yes (by omega)]
  · rw [gr_other hk, h2]
    unfold gr
    rw [gm_yes (by omega)]
/-- how many rows disk d has, of the first m cells -/
def ght (n t d : Nat) : Nat → Nat
  | 0 => 0
  | k + 1 => if gd n t k = d then max (ght n t d k) (gr n t k + 1) else ght n t d k
theorem ght_mono {n t d : Nat} (k : Nat) : ght n t d k ≤ ght n t d (k + 1) := by
  show _ ≤ if gd n t k = d then max (ght n t d k) (gr n t k + 1) else ght n t d k
  split
  · exact Nat.le_max_left _ _
  · exact Nat.le_refl _
theorem ght_lt {n t : Nat} {i : Nat} : ∀ {m}, i < m → gr n t i < ght n t (gd n t i) m
  | 0, h => absurd h (Nat.not_lt_zero _)
  | m + 1, h => by
    by_cases e : i = m
    · subst e
      show _ < if gd n t i = gd n t i then max (ght n t (gd n t i) i) (gr n t i + 1) else _
      rw [if_pos rfl]
      have := Nat.le_max_right (ght n t (gd n t i) i) (gr n t i + 1)
      omega
    · have := ght_lt (n := n) (t := t) (m := m) (show i < m by omega)
      have := ght_mono (n := n) (t := t) (d := gd n t i) m
      omega
theorem ght_le {n t d b : Nat} : ∀ {m}, (∀ i, i < m → gd n t i = d → gr n t i < b) → ght n t d m ≤ b
  | 0, _ => Nat.zero_le _
  | m + 1, h => by
    have ih := ght_le (n := n) (t := t) (d := d) (b := b) (m := m) (fun i hi => h i (by omega))
    show (if gd n t m = d then max (ght n t d m) (gr n t m + 1) else ght n t d m) ≤ b
    by_cases e : gd n t m = d
    · rw [if_pos e]
      have := h m (by omega) e
      exact Nat.max_le.2 ⟨ih, by omega⟩
    · rw [if_neg e]; exact ih
theorem ght_at {n t d : Nat} : ∀ {m}, 0 < ght n t d m → ∃ i, i < m ∧ gd n t i = d ∧ ght n t d m = gr n t i + 1
  | 0, h => absurd h (Nat.lt_irrefl _)
  | m + 1, h => by
    by_cases e : gd n t m = d
    · have h1 : ght n t d (m + 1) = max (ght n t d m) (gr n t m + 1) := if_pos e
      by_cases q : ght n t d m ≤ gr n t m + 1
      · exact ⟨m, by omega, e, by rw [h1]; omega⟩
      · obtain ⟨i, a, b, c⟩ := ght_at (n := n) (t := t) (d := d) (m := m) (by omega)
        exact ⟨i, by omega, b, by rw [h1]; omega⟩
    · have h1 : ght n t d (m + 1) = ght n t d m := if_neg e
      rw [h1] at h ⊢
      obtain ⟨i, a, b, c⟩ := ght_at (n := n) (t := t) (d := d) (m := m) h
      exact ⟨i, by omega, b, c⟩
theorem ght_max {n t d m : Nat} : ght n t d m ≤ m := ght_le (fun i hi _ => by have := gr_le n t i; omega)
/-- what stands at row r of disk d, of the first m cells -/
def gen {α : Type} (z : α) (c : Nat → α) (n t d r : Nat) : Nat → α
  | 0 => z
  | k + 1 => if gd n t k = d ∧ gr n t k = r then c k else gen z c n t d r k
theorem gen_at {α : Type} {z : α} {c : Nat → α} {n t i : Nat} (hn : 1 ≤ n) : ∀ {m}, i < m → gen z c n t (gd n t i) (gr n t i) m = c i
  | 0, h => absurd h (Nat.not_lt_zero _)
  | m + 1, h => by
    show (if gd n t m = gd n t i ∧ gr n t m = gr n t i then c m else gen z c n t (gd n t i) (gr n t i) m) = c i
    by_cases e : i = m
    · subst e
      rw [if_pos ⟨rfl, rfl⟩]
    · rw [if_neg (fun q => e (g_inj hn q.1 q.2).symm)]
      exact gen_at hn (by omega)
theorem gen_none {α : Type} {z : α} {c : Nat → α} {n t d r : Nat} : ∀ {m}, (∀ i, i < m → ¬ (gd n t i = d ∧ gr n t i = r)) → gen z c n t d r m = z
  | 0, _ => rfl
  | m + 1, h => by
    show (if gd n t m = d ∧ gr n t m = r then c m else gen z c n t d r m) = z
    rw [if_neg (h m (by omega))]
    exact gen_none (fun i hi => h i (by omega))
/-- what stands there is a cell's, or there is none -/
theorem gen_ways {α : Type} (z : α) (c : Nat → α) {n t : Nat} (d r m : Nat) (hn : 1 ≤ n) : (∃ i, i < m ∧ gd n t i = d ∧ gr n t i = r ∧ gen z c n t d r m = c i) ∨ ((∀ i, i < m → ¬ (gd n t i = d ∧ gr n t i = r)) ∧ gen z c n t d r m = z) := by
  by_cases h : ∃ i, i < m ∧ gd n t i = d ∧ gr n t i = r
  · obtain ⟨i, hi, e1, e2⟩ := h
    refine .inl ⟨i, hi, e1, e2, ?_⟩
    rw [← e1, ← e2]
    exact gen_at hn hi
  · have h' : ∀ i, i < m → ¬ (gd n t i = d ∧ gr n t i = r) := fun i hi q => h ⟨i, hi, q.1, q.2⟩
    exact .inr ⟨h', gen_none h'⟩
theorem gen_past {α : Type} {z : α} {c : Nat → α} {n t d r m : Nat} (h : ght n t d m ≤ r) : gen z c n t d r m = z :=
  gen_none (fun i hi q => by have := ght_lt (n := n) (t := t) hi; rw [q.1, q.2] at this; omega)
/-- one cell another one -/
theorem gen_up {α : Type} {z : α} {c : Nat → α} {n t i m : Nat} {x : α} (hn : 1 ≤ n) (hi : i < m) (d r : Nat) : gen z (fun k => if k = i then x else c k) n t d r m = if gd n t i = d ∧ gr n t i = r then x else gen z c n t d r m := by
  rcases gen_ways z c (t := t) d r m hn with ⟨j, hj, e1, e2, e3⟩ | ⟨h1, h2⟩
  · by_cases q : i = j
    · subst q
      rw [if_pos ⟨e1, e2⟩, ← e1, ← e2, gen_at hn hi, if_pos rfl]
    · rw [if_neg (fun z => q (g_inj hn (z.1.trans e1.symm) (z.2.trans e2.symm))), e3, ← e1, ← e2, gen_at hn hj, if_neg (fun z => q z.symm)]
  · rw [if_neg (h1 i hi), h2, gen_none h1]
/-- a cell moves: what stands where -/
theorem gen_step {α : Type} {z : α} {c : Nat → α} {n t m : Nat} (hn : 1 ≤ n) (ht : t < m) (d r : Nat) :
    gen z c n (t + 1) d r m = if t % (n + 1) = d ∧ t / (n + 1) = r then c t else if t % n = d ∧ t / n = r then z else gen z c n t d r m := by
  have hd : gd n (t + 1) t = t % (n + 1) := by unfold gd; rw [gm_yes (by omega)]
  have hr : gr n (t + 1) t = t / (n + 1) := by unfold gr; rw [gm_yes (by omega)]
  have hd' : gd n t t = t % n := by unfold gd; rw [gm_no (by omega)]
  have hr' : gr n t t = t / n := by unfold gr; rw [gm_no (by omega)]
  by_cases e : t % (n + 1) = d ∧ t / (n + 1) = r
  · rw [if_pos e, ← e.1, ← e.2, ← hd, ← hr]
    exact gen_at hn ht
  · rw [if_neg e]
    by_cases e2 : t % n = d ∧ t / n = r
    · rw [if_pos e2]
      refine gen_none (fun i hi q => ?_)
      by_cases z : i = t
      · subst z
        rw [hd, hr] at q
        exact e q
      · rw [gd_other z, gr_other z] at q
        refine z (g_inj (t := t) hn ?_ ?_)
        · rw [q.1, hd']; exact e2.1.symm
        · rw [q.2, hr']; exact e2.2.symm
    · rw [if_neg e2]
      rcases gen_ways z c (t := t) d r m hn with ⟨j, hj, e1, e3, e4⟩ | ⟨h1, h2⟩
      · have hne : j ≠ t := fun z => by subst z; rw [hd'] at e1; rw [hr'] at e3; exact e2 ⟨e1, e3⟩
        have a : gd n (t + 1) j = d := by rw [gd_other hne]; exact e1
        have b : gr n (t + 1) j = r := by rw [gr_other hne]; exact e3
        rw [e4]
        have := gen_at (z := z) (c := c) (t := t + 1) hn hj
        rw [a, b] at this
        exact this
      · rw [h2]
        refine gen_none (fun i hi q => ?_)
        by_cases z : i = t
        · subst z
          rw [hd, hr] at q
          exact e q
        · rw [gd_other z, gr_other z] at q
          exact h1 i hi q
/-- all have moved: how many rows -/
theorem ght_all {n t d m : Nat} (ht : m ≤ t) (hd : d ≤ n) : ght n t d m = (m + n - d) / (n + 1) := by
  refine Nat.le_antisymm (ght_le (fun i hi e => ?_)) ?_
  · have hb := g_back n t i
    rw [gm_yes (by omega), e] at hb
    refine (Nat.lt_iff_add_one_le).2 ((Nat.le_div_iff_mul_le (by omega)).2 ?_)
    rw [Nat.mul_comm, Nat.mul_add]
    omega
  · by_cases q : (m + n - d) / (n + 1) = 0
    · rw [q]; exact Nat.zero_le _
    · obtain ⟨r, hr⟩ := Nat.exists_eq_succ_of_ne_zero q
      rw [Nat.succ_eq_add_one] at hr
      have h1 := Nat.div_mul_le_self (m + n - d) (n + 1)
      rw [hr, Nat.mul_comm, Nat.mul_add] at h1
      have hi : (n + 1) * r + d < m := by omega
      have h2 := ght_lt (n := n) (t := t) hi
      have e1 : gd n t ((n + 1) * r + d) = d := by
        unfold gd
        rw [gm_yes (by omega), Nat.mul_add_mod]
        exact Nat.mod_eq_of_lt (by omega)
      have e2 : gr n t ((n + 1) * r + d) = r := by
        unfold gr
        rw [gm_yes (by omega), Nat.mul_add_div (by omega), Nat.div_eq_of_lt (by omega), Nat.add_zero]
      rw [e1, e2] at h2
      rw [hr]
      exact h2
theorem ght_even {n t d m : Nat} (ht : m ≤ t) (hd : d ≤ n) : ght n t d m ≤ ght n t 0 m ∧ ght n t 0 m ≤ ght n t d m + 1 := by
  rw [ght_all ht hd, ght_all ht (Nat.zero_le _)]
  refine ⟨Nat.div_le_div_right (by omega), ?_⟩
  have h := Nat.add_div_right (m + n - d) (show 0 < n + 1 by omega)
  have h2 : (m + n - 0) / (n + 1) ≤ (m + n - d + (n + 1)) / (n + 1) := Nat.div_le_div_right (by omega)
  omega
/-- all rows together: as many as cells -/
theorem sm_up {f g : Nat → Nat} {d : Nat} : ∀ {n}, d < n → (∀ i, i < n → i ≠ d → g i = f i) → g d = f d + 1 → sm g n = sm f n + 1
  | 0, h, _, _ => absurd h (Nat.not_lt_zero _)
  | n + 1, h, h1, h2 => by
    show sm g n + g n = sm f n + f n + 1
    by_cases e : d = n
    · subst e
      rw [sm_congr (fun i hi => h1 i (by omega) (by omega)), h2]
      omega
    · rw [sm_up (show d < n by omega) (fun i hi => h1 i (by omega)) h2, h1 n (by omega) (fun q => e q.symm)]
      omega
theorem ght_sum (n t : Nat) : ∀ m, m ≤ t → sm (fun d => ght n t d m) (n + 1) = m
  | 0, _ => sm_zero _
  | m + 1, h => by
    have ih := ght_sum n t m (by omega)
    have hg : gd n t m = m % (n + 1) := by unfold gd; rw [gm_yes (by omega)]
    have hr : gr n t m = m / (n + 1) := by unfold gr; rw [gm_yes (by omega)]
    have hlt := Nat.mod_lt m (show 0 < n + 1 by omega)
    have hb := Nat.div_add_mod m (n + 1)
    have g1 : ∀ i, i < n + 1 → i ≠ m % (n + 1) → ght n t i (m + 1) = ght n t i m := fun i _ hne => by
      show (if gd n t m = i then max (ght n t i m) (gr n t m + 1) else ght n t i m) = ght n t i m
      rw [if_neg (by rw [hg]; exact fun z => hne z.symm)]
    have g2 : ght n t (m % (n + 1)) (m + 1) = ght n t (m % (n + 1)) m + 1 := by
      show (if gd n t m = m % (n + 1) then max (ght n t (m % (n + 1)) m) (gr n t m + 1) else ght n t (m % (n + 1)) m) = ght n t (m % (n + 1)) m + 1
      rw [if_pos hg, hr]
      have e : ght n t (m % (n + 1)) m = m / (n + 1) := by
        rw [ght_all (by omega) (by omega)]
        generalize m / (n + 1) = q at *
        generalize m % (n + 1) = p at *
        have e2 : m + n - p = (n + 1) * q + n := by omega
        rw [e2, Nat.mul_add_div (by omega), Nat.div_eq_of_lt (by omega), Nat.add_zero]
      rw [e]
      exact Nat.max_eq_right (by omega)
    rw [sm_up (f := fun d => ght n t d m) (d := m % (n + 1)) hlt g1 g2, ih]
end Go.Proofs.YtdbanimlnjhhlaaDoor
