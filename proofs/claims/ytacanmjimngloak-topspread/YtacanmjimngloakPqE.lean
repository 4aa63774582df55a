/- Where something is wrong: that healing one part and holding the rest against what stands there finds just the parts that fit; what Locate answers, and that it is one answer. -/
import Derived.Test.YtacanmjimngloakPqD
namespace Go.Proofs.Ytacanmjimngloak
namespace Mx
open El Pol
theorem gn_one {k i : Nat} (hi : i < k) : gn (fun j => decide (j = i)) k = [i] := by
  unfold gn
  induction k with
  | zero => omega
  | succ k ih =>
    rw [List.range_succ, List.filter_append]
    by_cases e : i = k
    · subst e
      have : List.filter (fun j => decide (j = i)) (List.range i) = [] := by
        rw [List.filter_eq_nil_iff]
        intro j hj
        have := List.mem_range.1 hj
        simp; omega
      rw [this]
      simp
    · rw [ih (by omega)]
      simp [show k ≠ i by omega]
theorem gn_none {k i : Nat} (hi : k ≤ i) : gn (fun j => decide (j = i)) k = [] := by
  unfold gn
  rw [List.filter_eq_nil_iff]
  intro j hj
  have := List.mem_range.1 hj
  simp; omega
/-- healed without one part, all others are as they stand just where it fits -/
theorem fit_heal {k L i : Nat} (hk : k ≤ 10) (hi : i < k + 2) {A D : M} (h : Healed k L A (fun j => decide (j = i)) D) :
    (∀ j, j < k + 2 → j ≠ i → ∀ l, l < L → pqp k D j l = A j l) ↔ Fit k L A (A k) (A (k + 1)) i := by
  by_cases h1 : i < k
  · have hg : (gn (fun j => decide (j = i)) k).length = 1 := by rw [gn_one h1]; rfl
    have hD : ∀ j, j < k → j ≠ i → ∀ l, l < L → D j l = A j l := fun j hj hne l hl => h.there j hj (by simpa using hne) l hl
    have hP := h.byP hg (by simp; omega)
    constructor
    · intro hs
      refine .inl ⟨h1, (fit_data h1).1 ⟨D i, fun l hl => ?_⟩⟩
      have e : Eqm k L D (fun j => if j = i then D i else A j) := fun j l hj hl => by
        dsimp only
        by_cases q : j = i
        · rw [if_pos q, q]
        · rw [if_neg q]; exact hD j hj q l hl
      rw [← pp_congr e hl, ← qq_congr e hl]
      refine ⟨(hP l hl).symm, ?_⟩
      have := hs (k + 1) (by omega) (by omega) l hl
      unfold pqp at this
      rw [if_neg (by omega), if_neg (by omega)] at this
      exact this.symm
    · intro hf
      have hf' : ∀ l, l < L → sQ k A (A (k + 1)) l = ti (g2 i) (sP k A (A k) l) := by
        rcases hf with ⟨_, q⟩ | ⟨q, _⟩ | ⟨q, _⟩
        · exact q
        · omega
        · omega
      obtain ⟨f, hR⟩ := (fit_data h1).2 hf'
      have hE : Healed k L A (fun j => decide (j = i)) (fun j => if j = i then f else A j) :=
        ⟨fun j hj hl l hlL => by
            have : j ≠ i := by simpa using hl
            rw [if_neg this],
          fun _ _ l hl => ((hR l hl).1).symm, fun _ q => by simp at q; omega, fun q => by rw [hg] at q; omega⟩
      have e := h.same hk (by omega) hE
      intro j hj hne l hl
      rw [pqp_congr e j l hl]
      unfold pqp
      by_cases q : j < k
      · rw [if_pos q]; dsimp only; rw [if_neg hne]
      · rw [if_neg q]
        by_cases q2 : j = k
        · rw [if_pos q2, q2]; exact ((hR l hl).1).symm
        · rw [if_neg q2, show j = k + 1 by omega]; exact ((hR l hl).2).symm
  · have hD : Eqm k L D A := fun j l hj hl => h.there j hj (by simp; omega) l hl
    by_cases h2 : i = k
    · constructor
      · intro hs
        refine .inr (.inl ⟨h2, fun l hl => ?_⟩)
        have := hs (k + 1) (by omega) (by omega) l hl
        rw [pqp_congr hD _ l hl] at this
        unfold pqp at this
        rw [if_neg (by omega), if_neg (by omega)] at this
        unfold sQ
        rw [this, pl_self]
      · intro hf j hj hne l hl
        rw [pqp_congr hD j l hl]
        unfold pqp
        by_cases q : j < k
        · rw [if_pos q]
        · rw [if_neg q, if_neg (by omega), show j = k + 1 by omega]
          rcases hf with ⟨q1, _⟩ | ⟨_, q1⟩ | ⟨q1, _⟩
          · omega
          · exact pl_eq_zero (q1 l hl)
          · omega
    · constructor
      · intro hs
        refine .inr (.inr ⟨by omega, fun l hl => ?_⟩)
        have := hs k (by omega) (by omega) l hl
        rw [pqp_congr hD _ l hl] at this
        unfold pqp at this
        rw [if_neg (by omega), if_pos rfl] at this
        unfold sP
        rw [this, pl_self]
      · intro hf j hj hne l hl
        rw [pqp_congr hD j l hl]
        unfold pqp
        by_cases q : j < k
        · rw [if_pos q]
        · rw [if_neg q, if_pos (by omega), show j = k by omega]
          rcases hf with ⟨q1, _⟩ | ⟨q1, _⟩ | ⟨_, q1⟩
          · omega
          · omega
          · exact pl_eq_zero (q1 l hl)
/-- what Locate answers of the parts A: where, and the fault -/
def Lct (k L : Nat) (A : M) (z : Int) (f : Nat) : Prop :=
  (Rgt k L A (A k) (A (k + 1)) ∧ z = -1 ∧ f = 0) ∨
  (¬ Rgt k L A (A k) (A (k + 1)) ∧ (∃ i : Nat, i < k + 2 ∧ Fit k L A (A k) (A (k + 1)) i ∧ z = i) ∧ f = 0) ∨
  (¬ Rgt k L A (A k) (A (k + 1)) ∧ (∀ i, i < k + 2 → ¬ Fit k L A (A k) (A (k + 1)) i) ∧ z = 0 ∧ f = 8)
theorem Lct.same {k L : Nat} (hk : k ≤ 10) {A : M} {z z' : Int} {f f' : Nat} (h : Lct k L A z f) (g : Lct k L A z' f') : z = z' ∧ f = f' := by
  rcases h with ⟨h1, h2, h3⟩ | ⟨h1, ⟨i, hi, h2, h3⟩, h4⟩ | ⟨h1, h2, h3, h4⟩
  · rcases g with ⟨g1, g2, g3⟩ | ⟨g1, _⟩ | ⟨g1, _⟩
    · exact ⟨by omega, by omega⟩
    · exact absurd h1 g1
    · exact absurd h1 g1
  · rcases g with ⟨g1, _⟩ | ⟨_, ⟨j, hj, g2, g3⟩, g4⟩ | ⟨_, g2, _⟩
    · exact absurd g1 h1
    · have := fit_one hk h1 h2 g2
      exact ⟨by omega, by omega⟩
    · exact absurd h2 (g2 i hi)
  · rcases g with ⟨g1, _⟩ | ⟨_, ⟨j, hj, g2, g3⟩, g4⟩ | ⟨_, _, g3, g4⟩
    · exact absurd g1 h1
    · exact absurd g2 (h2 j hj)
    · exact ⟨by omega, by omega⟩
/-- is there such an answer? there is -/
theorem loc_is (k L : Nat) (A : M) : ∃ z f, Lct k L A z f := by
  by_cases h : Rgt k L A (A k) (A (k + 1))
  · exact ⟨_, _, .inl ⟨h, rfl, rfl⟩⟩
  · by_cases g : ∃ i, i < k + 2 ∧ Fit k L A (A k) (A (k + 1)) i
    · obtain ⟨i, hi, hf⟩ := g
      exact ⟨i, 0, .inr (.inl ⟨h, ⟨i, hi, hf, rfl⟩, rfl⟩)⟩
    · exact ⟨0, 8, .inr (.inr ⟨h, fun i hi hf => g ⟨i, hi, hf⟩, rfl, rfl⟩)⟩
end Mx
end Go.Proofs.Ytacanmjimngloak
