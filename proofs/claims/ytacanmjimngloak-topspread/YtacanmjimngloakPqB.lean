/- Where something is wrong in parts with P and Q: what may be another one, and that it is one alone. -/
import Derived.Test.YtacanmjimngloakPqA
namespace Go.Proofs.Ytacanmjimngloak
namespace Mx
open El Pol
/-- by how much P and Q are not those of the data -/
def sP (k : Nat) (D : M) (P : Nat → El) (l : Nat) : El := pl (pp k D l) (P l)
def sQ (k : Nat) (D : M) (Q : Nat → El) (l : Nat) : El := pl (qq k D l) (Q l)
/-- P and Q are those of the data -/
def Rgt (k L : Nat) (D : M) (P Q : Nat → El) : Prop := ∀ l, l < L → P l = pp k D l ∧ Q l = qq k D l
theorem rgt_iff {k L : Nat} {D : M} {P Q : Nat → El} : Rgt k L D P Q ↔ ∀ l, l < L → sP k D P l = 0 ∧ sQ k D Q l = 0 := by
  constructor
  · intro h l hl
    obtain ⟨h1, h2⟩ := h l hl
    unfold sP sQ
    rw [h1, h2, pl_self, pl_self]
    exact ⟨rfl, rfl⟩
  · intro h l hl
    obtain ⟨h1, h2⟩ := h l hl
    exact ⟨(pl_eq_zero h1).symm, (pl_eq_zero h2).symm⟩
/-- with another block at i they would be -/
def Fit (k L : Nat) (D : M) (P Q : Nat → El) (i : Nat) : Prop :=
  (i < k ∧ ∀ l, l < L → sQ k D Q l = ti (g2 i) (sP k D P l)) ∨ (i = k ∧ ∀ l, l < L → sQ k D Q l = 0) ∨ (i = k + 1 ∧ ∀ l, l < L → sP k D P l = 0)
theorem fit_data {k L i : Nat} (hi : i < k) {D : M} {P Q : Nat → El} : (∃ f : Nat → El, Rgt k L (fun j => if j = i then f else D j) P Q) ↔ ∀ l, l < L → sQ k D Q l = ti (g2 i) (sP k D P l) := by
  constructor
  · rintro ⟨f, h⟩ l hl
    obtain ⟨h1, h2⟩ := h l hl
    rw [pp_up hi] at h1
    rw [qq_up hi] at h2
    unfold sP sQ
    rw [h1, h2, ← pl_assoc, ← pl_assoc, pl_self, zero_pl, ← pl_assoc, ← pl_assoc, pl_self, zero_pl, ti_pl]
  · intro h
    refine ⟨fun l => pl (D i l) (sP k D P l), fun l hl => ?_⟩
    rw [pp_up hi, qq_up hi]
    have hq := h l hl
    constructor
    · unfold sP
      rw [pl_assoc (pp k D l), ← pl_assoc (D i l) (D i l), pl_self, zero_pl, ← pl_assoc, pl_self, zero_pl]
    · rw [ti_pl, ← hq, pl_assoc (qq k D l), ← pl_assoc (ti (g2 i) (D i l)), pl_self, zero_pl]
      unfold sQ
      rw [← pl_assoc, pl_self, zero_pl]
theorem fit_one {k L : Nat} (hk : k ≤ 10) {D : M} {P Q : Nat → El} {i j : Nat} (hn : ¬ Rgt k L D P Q) (h1 : Fit k L D P Q i) (h2 : Fit k L D P Q j) : i = j := by
  have hz : ∀ i, i < k → (∀ l, l < L → sQ k D Q l = ti (g2 i) (sP k D P l)) → (∀ l, l < L → sP k D P l = 0) → False := fun i _ q p => hn (rgt_iff.2 fun l hl => ⟨p l hl, by rw [q l hl, p l hl, ti_zero]⟩)
  have hq0 : ∀ i, i < k → (∀ l, l < L → sQ k D Q l = ti (g2 i) (sP k D P l)) → (∀ l, l < L → sQ k D Q l = 0) → False := fun i hi q p => hz i hi q fun l hl => by
    have := p l hl
    rw [q l hl] at this
    rcases ti_eq_zero this with e | e
    · exact absurd e (g2_nz (by omega))
    · exact e
  rcases h1 with ⟨hi, q1⟩ | ⟨rfl, q1⟩ | ⟨rfl, q1⟩
  · rcases h2 with ⟨hj, q2⟩ | ⟨rfl, q2⟩ | ⟨rfl, q2⟩
    · by_cases e : i = j
      · exact e
      · exfalso
        refine hz i hi q1 fun l hl => ?_
        have h := (q1 l hl).symm.trans (q2 l hl)
        have h3 : ti (pl (g2 i) (g2 j)) (sP k D P l) = 0 := by rw [pl_ti, h, pl_self]
        rcases ti_eq_zero h3 with q | q
        · exact absurd (pl_eq_zero q) (g2_ne (by omega) (by omega) e)
        · exact q
    · exact (hq0 i hi q1 q2).elim
    · exact (hz i hi q1 q2).elim
  · rcases h2 with ⟨hj, q2⟩ | ⟨rfl, _⟩ | ⟨rfl, q2⟩
    · exact (hq0 j hj q2 q1).elim
    · rfl
    · exact (hn (rgt_iff.2 fun l hl => ⟨q2 l hl, q1 l hl⟩)).elim
  · rcases h2 with ⟨hj, q2⟩ | ⟨rfl, q2⟩ | ⟨rfl, _⟩
    · exact (hz j hj q2 q1).elim
    · exact (hn (rgt_iff.2 fun l hl => ⟨q1 l hl, q2 l hl⟩)).elim
    · rfl
/-- parts that are right, one of which is another one: it fits there -/
theorem fit_moved {k L i : Nat} (hi : i < k) {D : M} {P Q : Nat → El} (h : Rgt k L D P Q) (f : Nat → El) : Fit k L (fun j => if j = i then f else D j) P Q i := by
  refine .inl ⟨hi, ?_⟩
  refine (fit_data hi).1 ⟨D i, ?_⟩
  have e : (fun j => if j = i then D i else (fun j => if j = i then f else D j) j) = D := by
    funext j
    by_cases q : j = i
    · rw [if_pos q, q]
    · rw [if_neg q]; dsimp only; rw [if_neg q]
  rw [e]
  exact h
end Mx
end Go.Proofs.Ytacanmjimngloak
