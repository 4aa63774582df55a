/- The rows by which parts are held against P and Q: what they make of the parts, and what Delta asks. -/
import Derived.Test.YtacanmjimngloakPqE
namespace Go.Proofs.Ytacanmjimngloak
namespace Mx
open El Pol
/-- an element a part: noughts where P and Q are those of the data -/
def ckr (k : Nat) : M := fun i j => if j < k then pqr i j else if j - k = i then 1 else 0
theorem ckr_p (k : Nat) (A : M) (l : Nat) : mm (k + 2) (ckr k) A 0 l = sP k A (A k) l := by
  show pl (pl (sm k (fun j => ti (ckr k 0 j) (A j l))) (ti (ckr k 0 k) (A k l))) (ti (ckr k 0 (k + 1)) (A (k + 1) l)) = _
  have e1 : ckr k 0 k = 1 := by unfold ckr; rw [if_neg (by omega), if_pos (by omega)]
  have e2 : ckr k 0 (k + 1) = 0 := by unfold ckr; rw [if_neg (by omega), if_neg (by omega)]
  rw [e1, e2, one_ti, zero_ti, pl_zero, sm_congr k (g := fun j => ti (pqr 0 j) (A j l)) (fun j hj => by unfold ckr; rw [if_pos hj])]
  unfold sP
  rw [← mm_pqr0]
  rfl
theorem ckr_q (k : Nat) (A : M) (l : Nat) : mm (k + 2) (ckr k) A 1 l = sQ k A (A (k + 1)) l := by
  show pl (pl (sm k (fun j => ti (ckr k 1 j) (A j l))) (ti (ckr k 1 k) (A k l))) (ti (ckr k 1 (k + 1)) (A (k + 1) l)) = _
  have e1 : ckr k 1 k = 0 := by unfold ckr; rw [if_neg (by omega), if_neg (by omega)]
  have e2 : ckr k 1 (k + 1) = 1 := by unfold ckr; rw [if_neg (by omega), if_pos (by omega)]
  rw [e1, e2, one_ti, zero_ti, pl_zero, sm_congr k (g := fun j => ti (pqr 1 j) (A j l)) (fun j hj => by unfold ckr; rw [if_pos hj])]
  unfold sQ
  rw [← mm_pqr1]
  rfl
/-- would another block there mend both? -/
def fits (k L : Nat) (p q : Nat → El) (i : Nat) : Prop := ∀ l, l < L → ti (q l) (ckr k 0 i) = ti (p l) (ckr k 1 i)
theorem fits_iff {k L i : Nat} (hi : i < k + 2) (A : M) : fits k L (sP k A (A k)) (sQ k A (A (k + 1))) i ↔ Fit k L A (A k) (A (k + 1)) i := by
  unfold fits Fit
  by_cases h1 : i < k
  · have e1 : ckr k 0 i = 1 := by unfold ckr; rw [if_pos h1]; rfl
    have e2 : ckr k 1 i = g2 i := by unfold ckr; rw [if_pos h1]; rfl
    rw [e1, e2]
    constructor
    · intro h
      exact .inl ⟨h1, fun l hl => by rw [← ti_one (sQ k A (A (k + 1)) l), h l hl, ti_comm]⟩
    · rintro (⟨_, h⟩ | ⟨h, _⟩ | ⟨h, _⟩)
      · exact fun l hl => by rw [ti_one, h l hl, ti_comm]
      · omega
      · omega
  · by_cases h2 : i = k
    · have e1 : ckr k 0 i = 1 := by unfold ckr; rw [if_neg h1, if_pos (by omega)]
      have e2 : ckr k 1 i = 0 := by unfold ckr; rw [if_neg h1, if_neg (by omega)]
      rw [e1, e2]
      constructor
      · intro h
        exact .inr (.inl ⟨h2, fun l hl => by rw [← ti_one (sQ k A (A (k + 1)) l), h l hl, ti_zero]⟩)
      · rintro (⟨h, _⟩ | ⟨_, h⟩ | ⟨h, _⟩)
        · omega
        · exact fun l hl => by rw [ti_one, h l hl, ti_zero]
        · omega
    · have e1 : ckr k 0 i = 0 := by unfold ckr; rw [if_neg h1, if_neg (by omega)]
      have e2 : ckr k 1 i = 1 := by unfold ckr; rw [if_neg h1, if_pos (by omega)]
      rw [e1, e2]
      constructor
      · intro h
        exact .inr (.inr ⟨by omega, fun l hl => by rw [← ti_one (sP k A (A k) l), ← h l hl, ti_zero]⟩)
      · rintro (⟨h, _⟩ | ⟨h, _⟩ | ⟨_, h⟩)
        · omega
        · omega
        · exact fun l hl => by rw [ti_one, h l hl, ti_zero]
/-- the rows of Delta: was, now, P, Q -/
def dlr (x : El) : M := fun i j => if i = 0 then (if j < 3 then 1 else 0) else (if j < 2 then x else if j = 2 then 0 else 1)
theorem dlr_p (x : El) (A : M) (l : Nat) : mm 4 (dlr x) A 0 l = pl (pl (A 0 l) (A 1 l)) (A 2 l) := by
  show pl (pl (pl (pl 0 (ti 1 (A 0 l))) (ti 1 (A 1 l))) (ti 1 (A 2 l))) (ti 0 (A 3 l)) = _
  rw [one_ti, one_ti, one_ti, zero_ti, pl_zero, zero_pl]
theorem dlr_q (x : El) (A : M) (l : Nat) : mm 4 (dlr x) A 1 l = pl (pl (ti x (A 0 l)) (ti x (A 1 l))) (A 3 l) := by
  show pl (pl (pl (pl 0 (ti x (A 0 l))) (ti x (A 1 l))) (ti 0 (A 2 l))) (ti 1 (A 3 l)) = _
  rw [one_ti, zero_ti, pl_zero, zero_pl]
end Mx
end Go.Proofs.Ytacanmjimngloak
