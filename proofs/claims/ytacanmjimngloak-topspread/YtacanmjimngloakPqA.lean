/- P and Q: any two of the parts are told by the others; a part that is another one is found. -/
import Derived.Test.YtacanmjimngloakCodeA
namespace Go.Proofs.Ytacanmjimngloak
namespace Mx
open El Pol
/-- the powers of 2 -/
def g2 (i : Nat) : El := pw 2 i
theorem g2_ne {i j : Nat} (hi : i < 10) (hj : j < 10) (h : i ≠ j) : g2 i ≠ g2 j := by
  have : ∀ a : Fin 10, ∀ b : Fin 10, a ≠ b → g2 a.val ≠ g2 b.val := by decide +kernel
  exact this ⟨i, hi⟩ ⟨j, hj⟩ (fun e => h (congrArg Fin.val e))
theorem g2_nz {i : Nat} (hi : i < 10) : g2 i ≠ 0 := by
  have : ∀ a : Fin 10, g2 a.val ≠ 0 := by decide +kernel
  exact this ⟨i, hi⟩
theorem g2_succ (i : Nat) (hi : i < 10) : ti (g2 i) 2 = g2 (i + 1) := by
  have : ∀ a : Fin 10, ti (g2 a.val) 2 = g2 (a.val + 1) := by decide +kernel
  exact this ⟨i, hi⟩
theorem g2_zero : g2 0 = 1 := by decide +kernel
/-- P and Q of k blocks, byte by byte -/
def pp (k : Nat) (D : M) (l : Nat) : El := sm k (fun i => D i l)
def qq (k : Nat) (D : M) (l : Nat) : El := sm k (fun i => ti (g2 i) (D i l))
theorem pl_cancel {a b c : El} (h : pl a b = pl a c) : b = c := by
  have := congrArg (pl a) h
  rwa [← pl_assoc, ← pl_assoc, pl_self, zero_pl, zero_pl] at this
/-- two that have that sum, and that sum by a and b -/
theorem pair_is {a b x y s t : El} (hab : a ≠ b) (h1 : pl x y = s) (h2 : pl (ti a x) (ti b y) = t) : y = ti (pl (ti a s) t) (iv (pl a b)) ∧ x = pl s y := by
  have hne : pl a b ≠ 0 := fun e => hab (pl_eq_zero e)
  have hx : x = pl s y := by rw [← h1, pl_assoc, pl_self, pl_zero]
  refine ⟨?_, hx⟩
  have : pl (ti a s) t = ti (pl a b) y := by
    rw [← h2, hx, ti_pl, ← pl_assoc, ← pl_assoc, pl_self, zero_pl, pl_ti]
  rw [this, ti_comm (pl a b), ti_assoc, ti_iv hne, ti_one]
theorem pair_one {a b x y x' y' : El} (hab : a ≠ b) (h1 : pl x y = pl x' y') (h2 : pl (ti a x) (ti b y) = pl (ti a x') (ti b y')) : x = x' ∧ y = y' := by
  obtain ⟨q1, q2⟩ := pair_is hab h1 h2
  obtain ⟨r1, r2⟩ := pair_is hab rfl (rfl : pl (ti a x') (ti b y') = _)
  have : y = y' := q1.trans r1.symm
  exact ⟨q2.trans ((congrArg (pl (pl x' y')) this).trans r2.symm), this⟩
/-- a sum, one of which is another one -/
theorem sm_up (k i : Nat) (hi : i < k) (f : Nat → El) (x : El) : pl (sm k f) (f i) = pl (sm k (fun j => if j = i then x else f j)) x := by
  obtain ⟨m, rfl⟩ : ∃ m, k = m + 1 := ⟨k - 1, by omega⟩
  rw [sm_skip f i m hi, sm_skip (fun j => if j = i then x else f j) i m hi, if_pos rfl, pl_assoc, pl_self, pl_assoc, pl_self, pl_zero, pl_zero]
  exact sm_congr m (fun j _ => by rw [if_neg (skip_ne i j)])
/-- a sum, one of which is nought, is the sum without it -/
theorem sm_out (k i : Nat) (hi : i < k) (f : Nat → El) : sm k f = pl (sm k (fun j => if j = i then 0 else f j)) (f i) := by
  have := sm_up k i hi f 0
  rw [pl_zero] at this
  rw [← this, pl_assoc, pl_self, pl_zero]
/-- two of which are noughts -/
theorem sm_out2 (k i j : Nat) (hi : i < k) (hj : j < k) (hij : i ≠ j) (f : Nat → El) : sm k f = pl (sm k (fun l => if l = i ∨ l = j then 0 else f l)) (pl (f i) (f j)) := by
  rw [sm_out k i hi f, sm_out k j hj (fun l => if l = i then 0 else f l), if_neg (Ne.symm hij), pl_assoc, pl_comm (f j)]
  congr 1
  exact sm_congr k (fun l _ => by
    by_cases h1 : l = j
    · rw [if_pos h1, if_pos (.inr h1)]
    · rw [if_neg h1]
      by_cases h2 : l = i
      · rw [if_pos h2, if_pos (.inl h2)]
      · rw [if_neg h2, if_neg (by omega)])
/-- data that are the same but at one place, with one P: the same -/
theorem one_by_p {k i : Nat} (hi : i < k) {D E : M} {l : Nat} (hs : ∀ j, j < k → j ≠ i → D j l = E j l) (hp : pp k D l = pp k E l) : D i l = E i l := by
  unfold pp at hp
  rw [sm_out k i hi (fun j => D j l), sm_out k i hi (fun j => E j l), sm_congr k (g := fun j => if j = i then 0 else E j l) (fun j hj => by
    by_cases h : j = i
    · rw [if_pos h, if_pos h]
    · rw [if_neg h, if_neg h, hs j hj h])] at hp
  exact pl_cancel hp
/-- with one Q -/
theorem one_by_q {k i : Nat} (hi : i < k) (hk : k ≤ 10) {D E : M} {l : Nat} (hs : ∀ j, j < k → j ≠ i → D j l = E j l) (hq : qq k D l = qq k E l) : D i l = E i l := by
  unfold qq at hq
  rw [sm_out k i hi (fun j => ti (g2 j) (D j l)), sm_out k i hi (fun j => ti (g2 j) (E j l)), sm_congr k (g := fun j => if j = i then 0 else ti (g2 j) (E j l)) (fun j hj => by
    by_cases h : j = i
    · rw [if_pos h, if_pos h]
    · rw [if_neg h, if_neg h, hs j hj h])] at hq
  have h := congrArg (ti (iv (g2 i))) (pl_cancel hq)
  rwa [← ti_assoc, ← ti_assoc, iv_ti (g2_nz (by omega)), one_ti, one_ti] at h
/-- but at two places, with one P and one Q -/
theorem two_by_pq {k i j : Nat} (hi : i < k) (hj : j < k) (hij : i ≠ j) (hk : k ≤ 10) {D E : M} {l : Nat} (hs : ∀ h, h < k → h ≠ i → h ≠ j → D h l = E h l) (hp : pp k D l = pp k E l) (hq : qq k D l = qq k E l) : D i l = E i l ∧ D j l = E j l := by
  unfold pp at hp
  unfold qq at hq
  rw [sm_out2 k i j hi hj hij (fun h => D h l), sm_out2 k i j hi hj hij (fun h => E h l), sm_congr k (g := fun h => if h = i ∨ h = j then 0 else E h l) (fun h hh => by
    by_cases q : h = i ∨ h = j
    · rw [if_pos q, if_pos q]
    · rw [if_neg q, if_neg q, hs h hh (by omega) (by omega)])] at hp
  rw [sm_out2 k i j hi hj hij (fun h => ti (g2 h) (D h l)), sm_out2 k i j hi hj hij (fun h => ti (g2 h) (E h l)), sm_congr k (g := fun h => if h = i ∨ h = j then 0 else ti (g2 h) (E h l)) (fun h hh => by
    by_cases q : h = i ∨ h = j
    · rw [if_pos q, if_pos q]
    · rw [if_neg q, if_neg q, hs h hh (by omega) (by omega)])] at hq
  exact pair_one (g2_ne (by omega) (by omega) hij) (pl_cancel hp) (pl_cancel hq)
/-- one block another one: P and Q move by it -/
theorem pp_up {k i : Nat} (hi : i < k) (D : M) (f : Nat → El) (l : Nat) : pp k (fun j => if j = i then f else D j) l = pl (pl (pp k D l) (D i l)) (f l) := by
  have := sm_up k i hi (fun j => D j l) (f l)
  unfold pp
  rw [this, pl_assoc, pl_self, pl_zero]
  exact sm_congr k (fun j _ => by
    dsimp only
    by_cases h : j = i
    · rw [if_pos h, if_pos h]
    · rw [if_neg h, if_neg h])
theorem qq_up {k i : Nat} (hi : i < k) (D : M) (f : Nat → El) (l : Nat) : qq k (fun j => if j = i then f else D j) l = pl (pl (qq k D l) (ti (g2 i) (D i l))) (ti (g2 i) (f l)) := by
  have := sm_up k i hi (fun j => ti (g2 j) (D j l)) (ti (g2 i) (f l))
  unfold qq
  rw [this, pl_assoc, pl_self, pl_zero]
  exact sm_congr k (fun j _ => by
    dsimp only
    by_cases h : j = i
    · rw [if_pos h, if_pos h, h]
    · rw [if_neg h, if_neg h])
end Mx
end Go.Proofs.Ytacanmjimngloak
