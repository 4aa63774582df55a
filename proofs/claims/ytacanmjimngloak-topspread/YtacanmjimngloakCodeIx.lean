/- Which are left: the numbers that are not lost, in their order, and where each stands among them. -/
import Derived.Test.YtacanmjimngloakCodeA
namespace Go.Proofs.Ytacanmjimngloak
open El Pol Mx
/-- the numbers below n that are not lost -/
def ix (lost : Nat → Bool) : Nat → List Nat
  | 0 => []
  | n + 1 => if lost n then ix lost n else ix lost n ++ [n]
theorem ix_le (lost : Nat → Bool) : ∀ n, (ix lost n).length ≤ n
  | 0 => Nat.le_refl _
  | n + 1 => by
    have := ix_le lost n
    rw [ix]
    split
    · omega
    · rw [List.length_append]; simp; omega
theorem ix_eq (lost : Nat → Bool) : ∀ n, ix lost n = (List.range n).filter (fun i => !lost i)
  | 0 => rfl
  | n + 1 => by
    rw [ix, List.range_succ, List.filter_append, ← ix_eq lost n]
    cases h : lost n <;> simp [h]
/-- where the i-th of those that are left stands -/
abbrev at' (lost : Nat → Bool) (n i : Nat) : Nat := (ix lost n).getD i 0
theorem at_mem {lost : Nat → Bool} {n i : Nat} (h : i < (ix lost n).length) : at' lost n i < n ∧ lost (at' lost n i) = false := by
  have hm : at' lost n i ∈ ix lost n := by
    show (ix lost n).getD i 0 ∈ _
    rw [List.getD_eq_getElem?_getD, List.getElem?_eq_getElem h]
    exact List.getElem_mem h
  rw [ix_eq, List.mem_filter] at hm
  exact ⟨List.mem_range.1 hm.1, by simpa using hm.2⟩
theorem at_ne {lost : Nat → Bool} {n i j : Nat} (hij : i < j) (h : j < (ix lost n).length) : at' lost n i ≠ at' lost n j := by
  have hp : (ix lost n).Pairwise (· ≠ ·) := by
    rw [ix_eq]
    exact List.Pairwise.filter _ List.nodup_range
  have := List.pairwise_iff_getElem.1 hp i j (by omega) h hij
  show (ix lost n).getD i 0 ≠ (ix lost n).getD j 0
  rw [List.getD_eq_getElem?_getD, List.getD_eq_getElem?_getD, List.getElem?_eq_getElem h, List.getElem?_eq_getElem (show i < (ix lost n).length by omega)]
  exact this
theorem at_map {α : Type} (f : Nat → α) {lost : Nat → Bool} {n i : Nat} (h : i < (ix lost n).length) : ((ix lost n).map f)[i]? = some (f (at' lost n i)) := by
  show _ = some (f ((ix lost n).getD i 0))
  rw [List.getElem?_map, List.getD_eq_getElem?_getD, List.getElem?_eq_getElem h]
  rfl
theorem left_not {lost : Nat → Bool} {n k : Nat} (hn : n ≤ 12) (hk : k ≤ (ix lost n).length) : ¬ Sing k (fun i j => gen k (at' lost n i) j) := by
  have hl := ix_le lost n
  exact gen_not (s := at' lost n) (by omega) (fun i hi => by have := (at_mem (lost := lost) (n := n) (i := i) (by omega)).1; omega) (fun i j hij hj => at_ne hij (by omega))
theorem ix_len_succ (lost : Nat → Bool) (n : Nat) : (ix lost (n + 1)).length = (ix lost n).length + (if lost n then 0 else 1) := by
  rw [ix]
  split
  · rfl
  · rw [List.length_append]; rfl
/-- a number that is not lost stands behind those ahead of it -/
theorem at_pos {lost : Nat → Bool} {j : Nat} (hj : lost j = false) : ∀ n, j < n → (ix lost j).length < (ix lost n).length ∧ at' lost n (ix lost j).length = j
  | 0, h => by omega
  | n + 1, h => by
    by_cases e : j = n
    · subst e
      rw [ix_len_succ, hj]
      refine ⟨by simp, ?_⟩
      show (ix lost (j + 1)).getD _ 0 = j
      rw [ix, hj, if_neg (by simp), List.getD_eq_getElem?_getD, List.getElem?_append_right (Nat.le_refl _), Nat.sub_self]
      rfl
    · obtain ⟨h1, h2⟩ := at_pos hj n (by omega)
      rw [ix_len_succ]
      refine ⟨by omega, ?_⟩
      have e2 : (ix lost (n + 1)).getD (ix lost j).length 0 = (ix lost n).getD (ix lost j).length 0 := by
        rw [ix]
        split
        · rfl
        · rw [List.getD_eq_getElem?_getD, List.getElem?_append_left h1, List.getD_eq_getElem?_getD]
      exact e2.trans h2
end Go.Proofs.Ytacanmjimngloak
