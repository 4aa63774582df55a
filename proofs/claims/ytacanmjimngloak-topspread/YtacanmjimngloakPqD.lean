/- The rows of P and Q: what the first parts that are left tell of data is what healed data are; no data but noughts are told as noughts. -/
import Derived.Test.YtacanmjimngloakPqC
import Derived.Test.YtacanmjimngloakCodeIx
namespace Go.Proofs.Ytacanmjimngloak
namespace Mx
open El Pol
/-- a row a part: a block of data is itself alone -/
def gp (k : Nat) (P : M) : M := fun i j => if i < k then one i j else P (i - k) j
theorem gp_gen (k i j : Nat) : gp k (par k) i j = gen k i j := by
  unfold gp gen
  by_cases h : i < k
  · rw [if_pos h, if_pos h]
  · rw [if_neg h, if_neg h]
    unfold par cauchy
    dsimp only
    rw [show k + (i - k) = i by omega]
theorem gp_data {k : Nat} {P D : M} {i j : Nat} (hi : i < k) : mm k (gp k P) D i j = D i j := by
  rw [← one_mm k D i j hi]
  exact sm_congr k (fun l _ => by unfold gp; rw [if_pos hi])
/-- the rows of P and Q -/
def pqr : M := fun i j => if i = 0 then 1 else g2 j
theorem mm_pqr0 (k : Nat) (D : M) (l : Nat) : mm k pqr D 0 l = pp k D l := sm_congr k (fun j _ => by unfold pqr; rw [if_pos rfl, one_ti])
theorem mm_pqr1 (k : Nat) (D : M) (l : Nat) : mm k pqr D 1 l = qq k D l := sm_congr k (fun j _ => by unfold pqr; rw [if_neg (by omega)])
theorem gp_p {k : Nat} {D : M} {l : Nat} : mm k (gp k pqr) D k l = pp k D l := by
  rw [← mm_pqr0]
  exact sm_congr k (fun j _ => by unfold gp; rw [if_neg (by omega), Nat.sub_self])
theorem gp_q {k : Nat} {D : M} {l : Nat} : mm k (gp k pqr) D (k + 1) l = qq k D l := by
  rw [← mm_pqr1]
  exact sm_congr k (fun j _ => by unfold gp; rw [if_neg (by omega), show k + 1 - k = 1 by omega])
theorem ix_gn (lost : Nat → Bool) : ∀ k, (ix lost k).length + (gn lost k).length = k
  | 0 => rfl
  | k + 1 => by
    have := ix_gn lost k
    rw [ix_len_succ]
    unfold gn at *
    rw [List.range_succ, List.filter_append, List.length_append]
    cases h : lost k <;> simp [h] <;> omega
theorem gn_le {lost : Nat → Bool} {k : Nat} (h : k ≤ (ix lost (k + 2)).length) : (gn lost k).length ≤ 2 := by
  have h1 := ix_gn lost k
  have h2 := ix_len_succ lost k
  have h3 : (ix lost (k + 2)).length = _ := ix_len_succ lost (k + 1)
  split at h2 <;> split at h3 <;> omega
/-- what the first that are left tell -/
theorem healed_of {k L : Nat} {A D : M} {lost : Nat → Bool} (hk : k ≤ (ix lost (k + 2)).length) (h : ∀ i l, i < k → l < L → mm k (gp k pqr) D (at' lost (k + 2) i) l = A (at' lost (k + 2) i) l) : Healed k L A lost D := by
  have h1 := ix_gn lost k
  have h2 := ix_len_succ lost k
  have h3 : (ix lost (k + 2)).length = _ := ix_len_succ lost (k + 1)
  have at_ : ∀ j l, l < L → lost j = false → j < k + 2 → (ix lost j).length < k → mm k (gp k pqr) D j l = A j l := fun j l hl hj hj2 hp => by
    have := h _ l hp hl
    rwa [(at_pos hj (k + 2) hj2).2] at this
  refine ⟨fun i hi hl l hlL => ?_, fun hg hp l hl => ?_, fun hg hp l hl => ?_, fun hg l hl => ?_⟩
  · rw [← at_ i l hlL hl (by omega) (by have := ix_le lost i; omega), gp_data hi]
  · rw [← at_ k l hl hp (by omega) (by omega), gp_p]
  · rw [hp, if_pos rfl] at h2
    have hq : lost (k + 1) = false := by
      cases e : lost (k + 1) with
      | false => rfl
      | true => rw [e, if_pos rfl] at h3; omega
    rw [← at_ (k + 1) l hl hq (by omega) (by omega), gp_q]
  · have hp : lost k = false := by
      cases e : lost k with
      | false => rfl
      | true => rw [e, if_pos rfl] at h2; split at h3 <;> omega
    have hq : lost (k + 1) = false := by
      cases e : lost (k + 1) with
      | false => rfl
      | true => rw [e, if_pos rfl] at h3; split at h2 <;> omega
    rw [hp, if_neg (by simp)] at h2
    exact ⟨by rw [← at_ k l hl hp (by omega) (by omega), gp_p], by rw [← at_ (k + 1) l hl hq (by omega) (by omega), gp_q]⟩
theorem sm_nought (k : Nat) : sm k (fun _ => (0 : El)) = 0 := by
  induction k with
  | zero => rfl
  | succ k ih => rw [sm, ih, pl_zero]
theorem pq_not {lost : Nat → Bool} {k : Nat} (h10 : k ≤ 10) (hk : k ≤ (ix lost (k + 2)).length) : ¬ Sing k (fun i j => gp k pqr (at' lost (k + 2) i) j) := by
  rintro ⟨v, ⟨j, hj, hv⟩, hz⟩
  have a1 : Healed k 1 (fun _ _ => 0) lost (fun i _ => v i) := healed_of hk (fun i l hi _ => hz i hi)
  have a2 : Healed k 1 (fun _ _ => 0) lost (fun _ _ => 0) := healed_of hk (fun i l hi _ => by
    show sm k (fun _ => ti _ 0) = 0
    rw [sm_congr k (g := fun _ => 0) (fun _ _ => ti_zero _), sm_nought])
  exact hv (a1.same h10 (gn_le hk) a2 j 0 hj (by omega))
/-- the data that the inverse makes of those that are left -/
theorem healed_inv {k L : Nat} {A T lf : M} {lost : Nat → Bool} (hk : k ≤ (ix lost (k + 2)).length) (hT : Inv k (fun i j => gp k pqr (at' lost (k + 2) i) j) T) (hl : ∀ i l, i < k → l < L → lf i l = A (at' lost (k + 2) i) l) : Healed k L A lost (mm k T lf) :=
  healed_of hk (fun i l hi hl' => by
    rw [← hl i l hi hl']
    have e : mm k (gp k pqr) (mm k T lf) (at' lost (k + 2) i) l = mm k (fun i j => gp k pqr (at' lost (k + 2) i) j) (mm k T lf) i l := rfl
    rw [e, ← mm_assoc, mm_congr hT.1 (Eqm.refl k L lf) i l hi hl', one_mm k lf i l hi])
/-- all parts of data -/
def pqp (k : Nat) (D : M) : M := fun i => if i < k then D i else if i = k then pp k D else qq k D
theorem pp_congr {k L : Nat} {D E : M} (h : Eqm k L D E) {l : Nat} (hl : l < L) : pp k D l = pp k E l := sm_congr k (fun i hi => h i l hi hl)
theorem qq_congr {k L : Nat} {D E : M} (h : Eqm k L D E) {l : Nat} (hl : l < L) : qq k D l = qq k E l := sm_congr k (fun i hi => by rw [h i l hi hl])
theorem pqp_congr {k L : Nat} {D E : M} (h : Eqm k L D E) (i l : Nat) (hl : l < L) : pqp k D i l = pqp k E i l := by
  unfold pqp
  by_cases h1 : i < k
  · rw [if_pos h1, if_pos h1]; exact h i l h1 hl
  · rw [if_neg h1, if_neg h1]
    by_cases h2 : i = k
    · rw [if_pos h2, if_pos h2]; exact pp_congr h hl
    · rw [if_neg h2, if_neg h2]; exact qq_congr h hl
end Mx
end Go.Proofs.Ytacanmjimngloak
