/- One part another one: it is found. -/
import Derived.Test.YtacanmjimngloakPqF
namespace Go.Proofs.Ytacanmjimngloak
namespace Mx
open El Pol
/-- the i-th part another one -/
abbrev upd (A : M) (i : Nat) (f : Nat → El) : M := fun j => if j = i then f else A j
theorem upd_low {A : M} {i k L : Nat} {f : Nat → El} (hi : k ≤ i) : Eqm k L (upd A i f) A := fun j l hj _ => by
  show (if j = i then f else A j) l = A j l
  rw [if_neg (by omega)]
theorem loc_right {k L : Nat} {A : M} (h : Rgt k L A (A k) (A (k + 1))) : Lct k L A (-1) 0 := .inl ⟨h, rfl, rfl⟩
theorem loc_moved {k L : Nat} (hk : k ≤ 10) {A : M} (hR : Rgt k L A (A k) (A (k + 1))) {i : Nat} (hi : i < k + 2) {f : Nat → El} (hne : ∃ l, l < L ∧ f l ≠ A i l) : Lct k L (upd A i f) i 0 := by
  obtain ⟨l0, hl0, hf⟩ := hne
  have at_ : ∀ j, j ≠ i → upd A i f j = A j := fun j hj => if_neg hj
  have ati : upd A i f i = f := if_pos rfl
  refine .inr (.inl ⟨fun hn => ?_, ⟨i, hi, ?_, rfl⟩, rfl⟩)
  · obtain ⟨h1, h2⟩ := hn l0 hl0
    obtain ⟨g1, g2⟩ := hR l0 hl0
    by_cases hik : i < k
    · rw [at_ k (by omega)] at h1
      have := one_by_p (D := upd A i f) (E := A) (l := l0) hik (fun j _ hj => by rw [at_ j hj]) (h1.symm.trans g1)
      rw [ati] at this
      exact hf this
    · rw [pp_congr (upd_low (by omega)) hl0] at h1
      rw [qq_congr (upd_low (by omega)) hl0] at h2
      by_cases hik2 : i = k
      · subst hik2
        rw [ati] at h1
        exact hf (h1.trans g1.symm)
      · obtain rfl : i = k + 1 := by omega
        rw [ati] at h2
        exact hf (h2.trans g2.symm)
  · by_cases hik : i < k
    · rw [at_ k (by omega), at_ (k + 1) (by omega)]
      exact fit_moved hik hR f
    · by_cases hik2 : i = k
      · subst hik2
        refine .inr (.inl ⟨rfl, fun l hl => ?_⟩)
        unfold sQ
        rw [qq_congr (upd_low (Nat.le_refl _)) hl, at_ (i + 1) (by omega), (hR l hl).2, pl_self]
      · obtain rfl : i = k + 1 := by omega
        refine .inr (.inr ⟨rfl, fun l hl => ?_⟩)
        unfold sP
        rw [pp_congr (upd_low (by omega)) hl, at_ k (by omega), (hR l hl).1, pl_self]
/-- parts of data are right -/
theorem pqp_right (k L : Nat) (D : M) : Rgt k L (pqp k D) (pqp k D k) (pqp k D (k + 1)) := fun l hl => by
  have e : Eqm k L (pqp k D) D := fun j l hj _ => by unfold pqp; rw [if_pos hj]
  rw [pp_congr e hl, qq_congr e hl]
  constructor
  · unfold pqp; rw [if_neg (by omega), if_pos rfl]
  · unfold pqp; rw [if_neg (by omega), if_neg (by omega)]
theorem pqp_data {k : Nat} {D : M} {i : Nat} (h : i < k) : pqp k D i = D i := by unfold pqp; rw [if_pos h]
theorem pqp_p {k : Nat} {D : M} : pqp k D k = pp k D := by unfold pqp; rw [if_neg (by omega), if_pos rfl]
theorem pqp_q {k : Nat} {D : M} : pqp k D (k + 1) = qq k D := by unfold pqp; rw [if_neg (by omega), if_neg (by omega)]
/-- what is healed of parts of data is what it was, whatever stands at those that are lost -/
theorem healed_back {k L : Nat} {A D E : M} {lost : Nat → Bool} (hk : k ≤ 10) (h2 : k ≤ (ix lost (k + 2)).length) (hA : ∀ i, i < k + 2 → lost i = false → ∀ l, l < L → A i l = pqp k D i l) (h : Healed k L A lost E) : Eqm k L E D := by
  have h1 := ix_gn lost k
  have h3 := ix_len_succ lost k
  have h4 : (ix lost (k + 2)).length = _ := ix_len_succ lost (k + 1)
  refine h.same hk (gn_le h2) (Healed.back (fun i hi hl l hlL => by rw [hA i (by omega) hl l hlL, pqp_data hi]) (fun q l hl => by rw [hA k (by omega) q l hl, pqp_p]) (fun q l hl => by rw [hA (k + 1) (by omega) q l hl, pqp_q]) (fun q1 q2 => ?_) (fun q => ?_))
  · rw [q2, if_pos rfl] at h3
    cases e : lost (k + 1) with
    | false => rfl
    | true => rw [e, if_pos rfl] at h4; omega
  · constructor
    · cases e : lost k with
      | false => rfl
      | true => rw [e, if_pos rfl] at h3; split at h4 <;> omega
    · cases e : lost (k + 1) with
      | false => rfl
      | true => rw [e, if_pos rfl] at h4; split at h3 <;> omega
end Mx
end Go.Proofs.Ytacanmjimngloak
